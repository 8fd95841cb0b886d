/- What the document's own Audit of layer 20 returns. Conditions: the tasks and records can be read. -/
import Derived.Test.YtiamnbddbmgffaaGreatDoorRows
import Derived.Test.YtiamnbddbmgffaaGreatDoorP47
namespace Go.Proofs.YtiamnbddbmgffaaGreatDoor
open Go.RowKit
set_option linter.unusedVariables false
set_option maxRecDepth 20000 in
set_option maxHeartbeats 2000000 in
theorem raud20_bad (A:Option Addr) (n c:Nat) (l:List Tk) (hn:l.length = n) (i x y:Int) (A':Option Addr) (n' c':Nat) (r:List Rc) (hn':r.length = n') (w:World) (h:RdK w A l) (hf:Few l) (hr:RdR w A' r) (hl:n' <= 4611686018427387904) {er:Int} (he:checkE l (i,x,y) r = er) (hne:er ≠ 0) :
  Calls Tryz.prog 29 #[.slice A n c,.agg #[.int .i64 i,.int .i64 x,.int .i64 y],.slice A' n' c'] w fun e w'=>∃ A2 m2 c2,e = .returned (.tuple #[.agg (sp3 (audV l (i,x,y) r).1),.slice A2 m2 c2,.int .i64 (audV l (i,x,y) r).2.2]) /\ (audV l (i,x,y) r).2.1.length = m2 /\ RdF w' A2 (audV l (i,x,y) r).2.1 /\ (A2 = none -> c2 = 0) /\ Below w.heap.size w w':=by
 rw [aud_bad he hne];have HS0:=Zh (show Bx ((w.alloc (.cells #[.int .i64 i,.int .i64 x,.int .i64 y] 27)).alloc (.cells #[.int .i64 0,.int .i64 0,.int .i64 0] 27)) w.heap.size 27 #[.int .i64 i,.int .i64 x,.int .i64 y] from (Bx.new (W:=w) _ _ rfl).alloc _);have HQ0:=Zh (show Bx ((w.alloc (.cells #[.int .i64 i,.int .i64 x,.int .i64 y] 27)).alloc (.cells #[.int .i64 0,.int .i64 0,.int .i64 0] 27)) (w.heap.size + 1) 27 #[.int .i64 0,.int .i64 0,.int .i64 0] from Bx.new (W:=w.alloc (.cells #[.int .i64 i,.int .i64 x,.int .i64 y] 27)) _ _ (by simp));have HB0:=Zh (show Below w.heap.size w ((w.alloc (.cells #[.int .i64 i,.int .i64 x,.int .i64 y] 27)).alloc (.cells #[.int .i64 0,.int .i64 0,.int .i64 0] 27)) from Zq);have CR:=fun W (h:RdK W A l) (hr:RdR W A' r)=>rchk20_any A n c l hn i x y A' n' c' r hn' W h hf hr hl
 have HK:=Zh (RdKn.of h);have HR:=Zh hr;rw [he] at CR;have hne':(er != 0) = true:=by simp [hne]
 clear he hne h hr hn hn' hf;go_enter Tryz.func29,Tryz.ntmps29;go_upto_region 1 with fail
 generalize ((w.alloc (.cells #[.int .i64 i,.int .i64 x,.int .i64 y] 27)).alloc (.cells #[.int .i64 0,.int .i64 0,.int .i64 0] 27)) = W0 at *
 go_wp2_with (first
  | (refine wpList_load_box Zv 27 _ rfl (w.heap.size) rfl 27 #[.int .i64 i,.int .i64 x,.int .i64 y] _ HS0.out Tryz.underlying27 rfl size_spot ?_)
  | (go_at_call 64; refine (CR _ (HK.out.below HB0.out).rd (HR.out.below HB0.out)).mono ?_; rintro e w1 ⟨rfl,hb1⟩; have HS1:=Zh (HS0.out.below hb1); have HQ1:=Zh (HQ0.out.below hb1); have HB1:=Zh (b_cl HB0.out Zl hb1); have lt1:=HQ1.out.lt; have ls1:w.heap.size < w1.heap.size:=Zo; clear hb1)
  | (refine wpList_store_box rfl 27 _ _ rfl (w.heap.size + 1) #[.int .i64 0,.int .i64 0,.int .i64 0] rfl rfl 27 #[.int .i64 0,.int .i64 0,.int .i64 0] HQ1.out size_spot rfl (one3 _ _ _) (fun w2 u2=>?_)))
 refine bodyPost_ret (results_box3 Tryz.results29 _ _ (w.heap.size + 1) 27 #[.int .i64 0,.int .i64 0,.int .i64 0] _ (.slice none 0 0) (.int .i64 er) rfl u2.box rfl rfl Tryz.underlying27 rfl size_spot) rfl ⟨none,0,0,rfl,rfl,RdF.nil _ _,fun _=>rfl,?_⟩;exact HB1.out.trans (u2.bel _ Zo)
theorem Chg2.own {W:World} {g:Nat} {t:TypeId} {cs:Array Value} {h:Nat} {s:TypeId} {ds:Array Value} {W1 W2:World} (c:Chg2 W g t cs h s ds W1) (hb:Below W.heap.size W1 W2) (hg:g < W.heap.size) (hh:h < W.heap.size):Chg2 W g t cs h s ds W2 :=
 ⟨Nat.le_trans c.size hb.size,hb.os.trans c.os,hb.tape.trans c.tape,hb.output.trans c.output,(hb.block g hg).trans c.box1,(hb.block h hh).trans c.box2,fun k a b d=>(hb.block k d).trans (c.other k a b d)⟩
theorem fget_in {F:Fs} {m:Int} (h:Fok F) (hh:Fhi m F) {c:Nat} (hc:c < 4):-1 <= fget F c /\ fget F c < m:=by
 obtain ⟨h1,h2,h3,h4⟩:=h;obtain ⟨k1,k2,k3,k4⟩:=hh
 rcases four hc with rfl | rfl | rfl | rfl
 ·exact ⟨h1,k1⟩
 ·exact ⟨h2,k2⟩
 ·exact ⟨h3,k3⟩
 ·exact ⟨h4,k4⟩
set_option maxRecDepth 20000 in
set_option maxHeartbeats 2000000 in
theorem raud20_good (A:Option Addr) (n c:Nat) (l:List Tk) (hn:l.length = n) (i x y:Int) (A':Option Addr) (n' c':Nat) (r:List Rc) (hn':r.length = n') (w:World) (h:RdK w A l) (hf:Few l) (hr:RdR w A' r) (hl:n' <= 4611686018427387904) (he:checkE l (i,x,y) r = 0) :
  Calls Tryz.prog 29 #[.slice A n c,.agg #[.int .i64 i,.int .i64 x,.int .i64 y],.slice A' n' c'] w fun e w'=>∃ A2 m2 c2,e = .returned (.tuple #[.agg (sp3 (audV l (i,x,y) r).1),.slice A2 m2 c2,.int .i64 (audV l (i,x,y) r).2.2]) /\ (audV l (i,x,y) r).2.1.length = m2 /\ RdF w' A2 (audV l (i,x,y) r).2.1 /\ (A2 = none -> c2 = 0) /\ Below w.heap.size w w':=by
 obtain ⟨ck,fit,tl⟩:=checkE_zero he;obtain ⟨ok,hl2⟩:=checkt_zero ck;obtain ⟨⟨⟨z0,z1,z2⟩,F⟩,hX⟩:∃ X:Pt × Fs,runS l (kindsV r) (beg r) ((i,x,y),none4) = X:=⟨_,rfl⟩;rw [aud_ok he hX,outG_all];simp only;have tb:=tl.bd;have ko:=runS_ok (l:=l) (kindsV r) (m:=beg r) (st:=((i,x,y),none4)) fok_none Zo;have kh:=runS_hi (l:=l) (kindsV r) (m:=beg r) (st:=((i,x,y),none4)) ⟨by show (-1:Int) < _; omega,by show (-1:Int) < _; omega,by show (-1:Int) < _; omega,by show (-1:Int) < _; omega⟩;rw [hX] at ko kh;have HFI:=Zh (fun (d:Nat) (hd:d < 4)=>fget_in ko kh hd);have HS0:=Zh (show Bx ((w.alloc (.cells #[.int .i64 i,.int .i64 x,.int .i64 y] 27)).alloc (.cells #[.int .i64 0,.int .i64 0,.int .i64 0] 27)) w.heap.size 27 #[.int .i64 i,.int .i64 x,.int .i64 y] from (Bx.new (W:=w) _ _ rfl).alloc _);have HQ0:=Zh (show Bx ((w.alloc (.cells #[.int .i64 i,.int .i64 x,.int .i64 y] 27)).alloc (.cells #[.int .i64 0,.int .i64 0,.int .i64 0] 27)) (w.heap.size + 1) 27 #[.int .i64 0,.int .i64 0,.int .i64 0] from Bx.new (W:=w.alloc (.cells #[.int .i64 i,.int .i64 x,.int .i64 y] 27)) _ _ (by simp));have HB0:=Zh (show Below w.heap.size w ((w.alloc (.cells #[.int .i64 i,.int .i64 x,.int .i64 y] 27)).alloc (.cells #[.int .i64 0,.int .i64 0,.int .i64 0] 27)) from Zq);have CR:=fun W (h:RdK W A l) (hr:RdR W A' r)=>rchk20_any A n c l hn i x y A' n' c' r hn' W h hf hr hl
 have HK:=Zh (RdKn.of h);have HR:=Zh hr;rw [he] at CR;have CK:=fun W (h:RdR W A' r)=>refkinds_any A' c' r W h tl Zo
 rw [hn'] at CK;have CB:=fun W (h:RdR W A' r)=>refbeg_any A' c' n' r W (Zh hn') h hl
 have CE:=fun W (h:RdR W A' r)=>reffin_any A' c' n' r W (Zh hn') h hl
 obtain ⟨N1,hN1⟩:∃ N1,(kindsV r).length = N1:=⟨_,rfl⟩;rw [hN1] at tb HFI
 have LTB:=Zh (show (n' = 0 -> lastT r = 0) /\ (0 < n' -> lastT r = fin r - 1 /\ 0 < fin r /\ fin r <= 40320) by
  unfold lastT;constructor
  ·intro h0
   rw [if_pos (List.eq_nil_of_length_eq_zero Zo)]
  ·intro h0
   have hq:r ≠ []:=by rintro rfl; simp at hn'; omega
   rw [if_neg hq];have h1:=tl.len hq
   have h3:0 < (kindsV r).length:=by
    rcases r with _ | ⟨q,r⟩
    ·exact absurd rfl hq
    ·have:=tl.1.2
     rw [kinds_cons,List.length_append,List.length_replicate];omega
   omega)
 have HKL:=Zh hN1;have HN:=Zh hn;have HF:=Zh fit;have OK:=Zh ok;have HX:=Zh hX;have HFW:=Zh hf;obtain ⟨m0,hm0⟩:∃ m0,beg r = m0:=⟨_,rfl⟩;have HM0:=Zh hm0;rw [hm0] at CB tb HFI;obtain ⟨tb0,tb1⟩:=tb;rw [hn] at hl2 ⊢;obtain ⟨lv,hlv⟩:∃ lv,lastT r = lv:=⟨_,rfl⟩;rw [hlv] at LTB ⊢;obtain ⟨ef,hef⟩:∃ ef,fin r = ef:=⟨_,rfl⟩;rw [hef] at LTB CE;obtain ⟨i0,hi,hz0,hz1,hz2⟩:=info_parts info_find;clear he h hr hn hn' hf ck fit tl ok hN1 hm0 hX ko kh hlv hef;go_enter Tryz.func29,Tryz.ntmps29;go_upto_region 1 with fail
 generalize ((w.alloc (.cells #[.int .i64 i,.int .i64 x,.int .i64 y] 27)).alloc (.cells #[.int .i64 0,.int .i64 0,.int .i64 0] 27)) = W0 at *
 go_upto_region 7 with (first
  | (refine wpList_load_box Zv 27 _ rfl (w.heap.size) rfl 27 #[.int .i64 i,.int .i64 x,.int .i64 y] _ HS0.out Tryz.underlying27 rfl size_spot ?_)
  | (go_at_call 64; refine (CR _ (HK.out.below HB0.out).rd (HR.out.below HB0.out)).mono ?_; rintro e w1 ⟨rfl,hb1⟩; have HS1:=Zh (HS0.out.below hb1); have HQ1:=Zh (HQ0.out.below hb1); have HB1:=Zh (b_cl HB0.out Zl hb1); have lt1:=HQ1.out.lt; have ls1:w.heap.size < w1.heap.size:=Zo; clear hb1)
  | (go_at_call 61; refine (CK _ (HR.out.below HB1.out)).mono ?_; rintro e w2 ⟨vk,rfl,hown,hb2⟩; obtain ⟨A1,c1,rfl,_⟩:=hown.read; rw [HKL.out] at hown ⊢; have HOK:=Zh hown; have HB2:=Zh (b_cl HB1.out Zl hb2); have HS2:=Zh (HS1.out.below hb2); have HQ2:=Zh (HQ1.out.below hb2); have HR2:=Zh ((HR.out.below HB1.out).below hb2); have sz2:=hb2.size; clear hown hb2)
  | (go_at_call 31; refine (CB _ HR2.out).mono ?_; rintro e w2' ⟨rfl,rfl⟩))
 have lt2:=HQ2.out.lt;have HSb:=Zh (show Bx (w2.alloc (.cells #[.int .i64 (-1),.int .i64 (-1),.int .i64 (-1),.int .i64 (-1)] 3)) (w.heap.size) 27 #[.int .i64 i,.int .i64 x,.int .i64 y] from HS2.out.alloc _);have HQb:=Zh (show Bx (w2.alloc (.cells #[.int .i64 (-1),.int .i64 (-1),.int .i64 (-1),.int .i64 (-1)] 3)) (w.heap.size + 1) 27 #[.int .i64 0,.int .i64 0,.int .i64 0] from HQ2.out.alloc _);have HBb:=Zh (show Below w.heap.size w (w2.alloc (.cells #[.int .i64 (-1),.int .i64 (-1),.int .i64 (-1),.int .i64 (-1)] 3)) from HB2.out.trans ((Below.refl _ _).alloc Zo _));have HFb:=Zh (show Bx (w2.alloc (.cells #[.int .i64 (-1),.int .i64 (-1),.int .i64 (-1),.int .i64 (-1)] 3)) (w2.heap.size) 3 (fs4 none4) from Bx.new _ _ rfl);have HKb:=Zh (show OwnN w1.heap.size (w2.alloc (.cells #[.int .i64 (-1),.int .i64 (-1),.int .i64 (-1),.int .i64 (-1)] 3)) (.slice A1 N1 c1) (kindsV r) from World.ownsRow.alloc HOK.out _);have HNE:=Zh (fun k (hk:(Value.slice A1 N1 c1).ownBlock = some k)=>(Nat.ne_of_lt (World.ownsRow.lt HOK.out k hk).2:k ≠ w2.heap.size));have lwb:(w2.alloc (.cells #[.int .i64 (-1),.int .i64 (-1),.int .i64 (-1),.int .i64 (-1)] 3)).heap.size = w2.heap.size + 1:=by simp
 clear HS0 HQ0 HB0 HS1 HQ1 HB1 HS2 HQ2 HB2 HR2 HOK CR CK CB;generalize (w2.alloc (.cells #[.int .i64 (-1),.int .i64 (-1),.int .i64 (-1),.int .i64 (-1)] 3)) = wb at *;have HC1:=Zh (show Chg2 wb (w.heap.size) 27 #[.int .i64 i,.int .i64 x,.int .i64 y] (w2.heap.size) 3 (fs4 none4) wb from ⟨Nat.le_refl _,rfl,rfl,rfl,HSb.out,HFb.out,fun _ _ _ _=>rfl⟩);go_wp2_with fail;go_loopg [13] N1 (fun g s13 wr=>∃ (k:Nat) (a u v:Int) (F0:Fs),k + g = N1 /\ s13 = .int .i64 (k:Int) /\ Hid (runS l ((kindsV r).take (k)) (beg r) ((i,x,y),none4) = ((a,u,v),F0)) /\ Chg2 wb (w.heap.size) 27 #[.int .i64 a,.int .i64 u,.int .i64 v] (w2.heap.size) 3 (fs4 F0) wr)
 case atStart=>exact ⟨0,i,x,y,none4,by omega,rfl,Zh rfl,HC1.out⟩
 case round =>
  clear HC1;obtain ⟨k,a,u,v,F0,hkg,rfl,HV,HC⟩:=hrel;obtain ⟨w3,rfl⟩:∃ w3:World,w3 = wr:=⟨_,rfl⟩;have HCH0:=Zh HC;clear HC;by_cases hlt:k < N1
  ·have HKd:=Zh (HKb.out.chg2 HCH0.out Zo HNE.out)
   obtain ⟨A4,c4,hA4,hrd⟩:=HKd.out.read;injection hA4 with hA5 hA6 hA7
   subst hA5 hA7;obtain ⟨bb,off,q,rfl,hbb,hcell,hq⟩:=hrd.at_ (k:=k) (by rw [HKL.out]; exact hlt);clear hrd hA6;have fs:=runS_fits OK.out ((kindsV r).take k) (beg r) ((i,x,y),none4) HF.out;rw [HV.out] at fs;obtain ⟨fa,fb,fx0,fx1,fy0,fy1⟩:=fits_cells OK.out fs;obtain ⟨at_,hat⟩:∃ at_:Int,m0 + (k:Int) = at_:=⟨_,rfl⟩;obtain ⟨⟨a2,u2,v2⟩,h2⟩:∃ s2:Pt,stepT l (a,u,v) q = s2:=⟨_,rfl⟩;obtain ⟨q0,hq0⟩:∃ q0,b0 l (a,u,v) q = q0:=⟨_,rfl⟩;obtain ⟨q1,hq1⟩:∃ q1,b1 l (a,u,v) q = q1:=⟨_,rfl⟩;obtain ⟨q2,hq2⟩:∃ q2,b2 l (a,u,v) at_ q = q2:=⟨_,rfl⟩;obtain ⟨q3,hq3⟩:∃ q3,b3 (a,u,v) q = q3:=⟨_,rfl⟩;have CS:=fun W (h:RdK W A l)=>refstep19_any A n c l HN.out a u v at_ q W h HFW.out hl2 OK.out fs
   rw [h2,hq0,hq1,hq2,hq3] at CS;unfold sp3 at CS;simp only at CS
   have HNX:=Zh (show runS l ((kindsV r).take (k + 1)) (beg r) ((i,x,y),none4) = ((a2,u2,v2),noteN F0 (q0,q1,q2,q3) at_ 4) by
    rw [runS_more hq.out,HV.out,HM0.out,hat,<- h2,<- hq0,<- hq1,<- hq2,<- hq3]
    rfl)
   have HK4:=Zh ((HK.out.below HBb.out).below (HCH0.out.bel Zl Zo Zo)).rd;have HBS0:=Zh HCH0.out.box1;have gat:IntKind.i64.wrap at_ = at_:=IntWalk.i64_in _ ⟨by omega,by omega⟩;have gk:(k:Int) < (N1:Int):=by omega
   clear hq h2 hq0 hq1 hq2 hq3 fs fa fb fx0 fx1 fy0 fy1;go_upto_region 10 with fail
   (try go_frame);go_cut [14,15] (fun u12 u13 wx=>∃ RA RB:Nat,u12 = .pointer (some ⟨RA,0,none⟩) /\ u13 = .pointer (some ⟨RB,0,none⟩) /\ Bx wx RA 27 #[.int .i64 a2,.int .i64 u2,.int .i64 v2] /\ Bx wx RB 110 #[.bool q0,.bool q1,.bool q2,.bool q3] /\ w3.heap.size <= RA /\ w3.heap.size <= RB /\ Below w3.heap.size w3 wx)
   case first =>
    clear HV HNX HKd;refine wp_region_noPanic ?_;refine wp_region_held_drew (S:=fun w'=>Below w3.heap.size w3 w') Zk ?_ (fun hHeld=>?_)
    ·exact b_dr (Below.refl _ _)
    refine Zt 0 (some 40) ?_;(try simp only [Zs]);refine Zt 1 (some 41) (v:=.agg #[.int .i64 a,.int .i64 u,.int .i64 v]) (hy:=fun w' hSw=>exec_load_box (w.heap.size) 27 #[.int .i64 a,.int .i64 u,.int .i64 v] _ w' rfl rfl (HBS0.out.below hSw) Tryz.underlying27 rfl size_spot) ?_;(try simp only [Zs]);refine Zt 2 (some 42) ?_;(try simp only [Zs]);refine Zt 3 (some 43) ?_;(try simp only [Zs]);refine Zt 4 (some 44) ?_;(try simp only [Zs]);refine Zt 5 (some 45) ?_;(try simp only [Zs]);refine Zt 6 (some 46) ?_;(try simp only [Zs]);refine Zt 7 (some 47) ?_;(try simp only [Zs]);refine Zt 8 (some 48) (hy:=by intro w' hSw; have:=c_cl hcell hSw; clear hSw; go_simp; try (with_reducible rfl)) ?_;(try simp only [Zs]);refine wpAnyH_ready (rs:=[9,13,14]) Zk (by simp) ?_;refine AllReadyH.cons (o:=⟨some 49,_,_,_,_,_⟩) rfl (fun K hK=>?_) (AllReadyH.cons (o:=⟨some 14,_,_,_,_,_⟩) rfl (fun K hK=>?_) (AllReadyH.cons (o:=⟨some 15,_,_,_,_,_⟩) rfl (fun K hK=>?_) AllReadyH.nil))
    ·
     go_simp;(go_at_call 65; refine (CS _ (HK4.out.below hHeld)).mono ?_; rintro e wf ⟨rfl,hbf⟩);go_wp2_with fail;refine hK.out _ _ (b_cl hHeld Zl Zm) (fun hHeld=>?_);clear hK K hbf;(try simp only [Zs]);refine Zt 10 (some 39) ?_;(try simp only [Zs]);refine Zt 11 (some 50) ?_;(try simp only [Zs]);refine Zt 12 (some 51) ?_;(try simp only [Zs]);refine wpAnyH_ready (rs:=[13,14]) Zk (by simp) ?_;refine AllReadyH.cons (o:=⟨some 14,_,_,_,_,_⟩) rfl (fun K hK=>?_) (AllReadyH.cons (o:=⟨some 15,_,_,_,_,_⟩) rfl (fun K hK=>?_) AllReadyH.nil)
     ·
      refine wp_alloc_any 27 #[.int .i64 0,.int .i64 0,.int .i64 0] Zk (fun gA WA hg hA hbA=>?_);have hgNA:=Nat.le_trans hHeld.size hg;refine hK.out _ _ (b_cl hHeld Zl hbA) (fun hHeld=>?_);clear hK K hbA hg;(try simp only [Zs]);refine Zr 14 (some 15) fun K hK=>?_
      refine wp_alloc_any 110 #[.bool false,.bool false,.bool false,.bool false] Zk (fun gB WB hg hB hbA=>?_);have hgNB:=Nat.le_trans hHeld.size hg;have hne:=Nat.ne_of_lt (Nat.lt_of_lt_of_le (hA.lt) hg);replace hA:=hA.below hbA;refine hK.out _ _ (b_cl hHeld Zl hbA) (fun hHeld=>?_);clear hK K hbA hg;(try simp only [Zs]);refine Zr 15 none fun K hK=>?_
      refine wp_store_any 27 _ _ rfl gA #[.int .i64 a2,.int .i64 u2,.int .i64 v2] rfl rfl 27 #[.int .i64 0,.int .i64 0,.int .i64 0] hA Zk rfl (one3 _ _ _) (fun W8 u8=>?_);refine hK.out _ _ (hHeld.trans (u8.bel _ hgNA)) (fun hHeld=>?_);clear hK K;(try simp only [Act.put]);replace hB:=u8.bx hB Zo;refine Zr 16 none fun K hK=>?_
      refine wp_store_any 110 _ _ rfl gB #[.bool q0,.bool q1,.bool q2,.bool q3] rfl rfl 110 #[.bool false,.bool false,.bool false,.bool false] hB Zk rfl (bool4_one _ _ _ _) (fun W9 u9=>?_);refine hK.out _ _ (hHeld.trans (u9.bel _ hgNB)) (fun hHeld=>?_);clear hK K;(try simp only [Act.put]);refine wpAnyH_done Zk ?_ _;refine NoPanic.normal ?_;go_wp2_with fail;go_meet;exact ⟨gA,gB,rfl,rfl,u9.bx u8.box Zo,u9.box,hgNA,hgNB,hHeld⟩
     ·
      refine wp_alloc_any 110 #[.bool false,.bool false,.bool false,.bool false] Zk (fun gB WB hg hB hbA=>?_);have hgNB:=Nat.le_trans hHeld.size hg;refine hK.out _ _ (b_cl hHeld Zl hbA) (fun hHeld=>?_);clear hK K hbA hg;(try simp only [Zs]);refine Zr 13 (some 14) fun K hK=>?_
      refine wp_alloc_any 27 #[.int .i64 0,.int .i64 0,.int .i64 0] Zk (fun gA WA hg hA hbA=>?_);have hgNA:=Nat.le_trans hHeld.size hg;have hne:=Nat.ne_of_lt (Nat.lt_of_lt_of_le (hB.lt) hg);replace hB:=hB.below hbA;refine hK.out _ _ (b_cl hHeld Zl hbA) (fun hHeld=>?_);clear hK K hbA hg;(try simp only [Zs]);refine Zr 15 none fun K hK=>?_
      refine wp_store_any 27 _ _ rfl gA #[.int .i64 a2,.int .i64 u2,.int .i64 v2] rfl rfl 27 #[.int .i64 0,.int .i64 0,.int .i64 0] hA Zk rfl (one3 _ _ _) (fun W8 u8=>?_);refine hK.out _ _ (hHeld.trans (u8.bel _ hgNA)) (fun hHeld=>?_);clear hK K;(try simp only [Act.put]);replace hB:=u8.bx hB Zo;refine Zr 16 none fun K hK=>?_
      refine wp_store_any 110 _ _ rfl gB #[.bool q0,.bool q1,.bool q2,.bool q3] rfl rfl 110 #[.bool false,.bool false,.bool false,.bool false] hB Zk rfl (bool4_one _ _ _ _) (fun W9 u9=>?_);refine hK.out _ _ (hHeld.trans (u9.bel _ hgNB)) (fun hHeld=>?_);clear hK K;(try simp only [Act.put]);refine wpAnyH_done Zk ?_ _;refine NoPanic.normal ?_;go_wp2_with fail;go_meet;exact ⟨gA,gB,rfl,rfl,u9.bx u8.box Zo,u9.box,hgNA,hgNB,hHeld⟩
    ·
     refine wp_alloc_any 27 #[.int .i64 0,.int .i64 0,.int .i64 0] Zk (fun gA WA hg hA hbA=>?_);have hgNA:=Nat.le_trans hHeld.size hg;refine hK.out _ _ (b_cl hHeld Zl hbA) (fun hHeld=>?_);clear hK K hbA hg;(try simp only [Zs]);refine wpAnyH_ready (rs:=[9,14]) Zk (by simp) ?_;refine AllReadyH.cons (o:=⟨some 49,_,_,_,_,_⟩) rfl (fun K hK=>?_) (AllReadyH.cons (o:=⟨some 15,_,_,_,_,_⟩) rfl (fun K hK=>?_) AllReadyH.nil)
     ·
      go_simp;(go_at_call 65; refine (CS _ (HK4.out.below hHeld)).mono ?_; rintro e wf ⟨rfl,hbf⟩);go_wp2_with fail;refine hK.out _ _ (b_cl hHeld Zl Zm) (fun hHeld=>?_);replace hA:=hA.below hbf;clear hK K hbf;(try simp only [Zs]);refine Zt 10 (some 39) ?_;(try simp only [Zs]);refine Zt 11 (some 50) ?_;(try simp only [Zs]);refine Zt 12 (some 51) ?_;(try simp only [Zs]);refine Zr 14 (some 15) fun K hK=>?_
      refine wp_alloc_any 110 #[.bool false,.bool false,.bool false,.bool false] Zk (fun gB WB hg hB hbA=>?_);have hgNB:=Nat.le_trans hHeld.size hg;have hne:=Nat.ne_of_lt (Nat.lt_of_lt_of_le (hA.lt) hg);replace hA:=hA.below hbA;refine hK.out _ _ (b_cl hHeld Zl hbA) (fun hHeld=>?_);clear hK K hbA hg;(try simp only [Zs]);refine Zr 15 none fun K hK=>?_
      refine wp_store_any 27 _ _ rfl gA #[.int .i64 a2,.int .i64 u2,.int .i64 v2] rfl rfl 27 #[.int .i64 0,.int .i64 0,.int .i64 0] hA Zk rfl (one3 _ _ _) (fun W8 u8=>?_);refine hK.out _ _ (hHeld.trans (u8.bel _ hgNA)) (fun hHeld=>?_);clear hK K;(try simp only [Act.put]);replace hB:=u8.bx hB Zo;refine Zr 16 none fun K hK=>?_
      refine wp_store_any 110 _ _ rfl gB #[.bool q0,.bool q1,.bool q2,.bool q3] rfl rfl 110 #[.bool false,.bool false,.bool false,.bool false] hB Zk rfl (bool4_one _ _ _ _) (fun W9 u9=>?_);refine hK.out _ _ (hHeld.trans (u9.bel _ hgNB)) (fun hHeld=>?_);clear hK K;(try simp only [Act.put]);refine wpAnyH_done Zk ?_ _;refine NoPanic.normal ?_;go_wp2_with fail;go_meet;exact ⟨gA,gB,rfl,rfl,u9.bx u8.box Zo,u9.box,hgNA,hgNB,hHeld⟩
     ·
      refine wp_alloc_any 110 #[.bool false,.bool false,.bool false,.bool false] Zk (fun gB WB hg hB hbA=>?_);have hgNB:=Nat.le_trans hHeld.size hg;have hne:=Nat.ne_of_lt (Nat.lt_of_lt_of_le (hA.lt) hg);replace hA:=hA.below hbA;refine hK.out _ _ (b_cl hHeld Zl hbA) (fun hHeld=>?_);clear hK K hbA hg;(try simp only [Zs]);refine Zr 9 (some 49) fun K hK=>?_
      go_simp;(go_at_call 65; refine (CS _ (HK4.out.below hHeld)).mono ?_; rintro e wf ⟨rfl,hbf⟩);go_wp2_with fail;refine hK.out _ _ (b_cl hHeld Zl Zm) (fun hHeld=>?_);replace hA:=hA.below hbf;replace hB:=hB.below hbf;clear hK K hbf;(try simp only [Zs]);refine Zt 10 (some 39) ?_;(try simp only [Zs]);refine Zt 11 (some 50) ?_;(try simp only [Zs]);refine Zt 12 (some 51) ?_;(try simp only [Zs]);refine Zr 15 none fun K hK=>?_
      refine wp_store_any 27 _ _ rfl gA #[.int .i64 a2,.int .i64 u2,.int .i64 v2] rfl rfl 27 #[.int .i64 0,.int .i64 0,.int .i64 0] hA Zk rfl (one3 _ _ _) (fun W8 u8=>?_);refine hK.out _ _ (hHeld.trans (u8.bel _ hgNA)) (fun hHeld=>?_);clear hK K;(try simp only [Act.put]);replace hB:=u8.bx hB Zo;refine Zr 16 none fun K hK=>?_
      refine wp_store_any 110 _ _ rfl gB #[.bool q0,.bool q1,.bool q2,.bool q3] rfl rfl 110 #[.bool false,.bool false,.bool false,.bool false] hB Zk rfl (bool4_one _ _ _ _) (fun W9 u9=>?_);refine hK.out _ _ (hHeld.trans (u9.bel _ hgNB)) (fun hHeld=>?_);clear hK K;(try simp only [Act.put]);refine wpAnyH_done Zk ?_ _;refine NoPanic.normal ?_;go_wp2_with fail;go_meet;exact ⟨gA,gB,rfl,rfl,u9.bx u8.box Zo,u9.box,hgNA,hgNB,hHeld⟩
    ·
     refine wp_alloc_any 110 #[.bool false,.bool false,.bool false,.bool false] Zk (fun gB WB hg hB hbA=>?_);have hgNB:=Nat.le_trans hHeld.size hg;refine hK.out _ _ (b_cl hHeld Zl hbA) (fun hHeld=>?_);clear hK K hbA hg;(try simp only [Zs]);refine wpAnyH_ready (rs:=[9,13]) Zk (by simp) ?_;refine AllReadyH.cons (o:=⟨some 49,_,_,_,_,_⟩) rfl (fun K hK=>?_) (AllReadyH.cons (o:=⟨some 14,_,_,_,_,_⟩) rfl (fun K hK=>?_) AllReadyH.nil)
     ·
      go_simp;(go_at_call 65; refine (CS _ (HK4.out.below hHeld)).mono ?_; rintro e wf ⟨rfl,hbf⟩);go_wp2_with fail;refine hK.out _ _ (b_cl hHeld Zl Zm) (fun hHeld=>?_);replace hB:=hB.below hbf;clear hK K hbf;(try simp only [Zs]);refine Zt 10 (some 39) ?_;(try simp only [Zs]);refine Zt 11 (some 50) ?_;(try simp only [Zs]);refine Zt 12 (some 51) ?_;(try simp only [Zs]);refine Zr 13 (some 14) fun K hK=>?_
      refine wp_alloc_any 27 #[.int .i64 0,.int .i64 0,.int .i64 0] Zk (fun gA WA hg hA hbA=>?_);have hgNA:=Nat.le_trans hHeld.size hg;have hne:=Nat.ne_of_lt (Nat.lt_of_lt_of_le (hB.lt) hg);replace hB:=hB.below hbA;refine hK.out _ _ (b_cl hHeld Zl hbA) (fun hHeld=>?_);clear hK K hbA hg;(try simp only [Zs]);refine Zr 15 none fun K hK=>?_
      refine wp_store_any 27 _ _ rfl gA #[.int .i64 a2,.int .i64 u2,.int .i64 v2] rfl rfl 27 #[.int .i64 0,.int .i64 0,.int .i64 0] hA Zk rfl (one3 _ _ _) (fun W8 u8=>?_);refine hK.out _ _ (hHeld.trans (u8.bel _ hgNA)) (fun hHeld=>?_);clear hK K;(try simp only [Act.put]);replace hB:=u8.bx hB Zo;refine Zr 16 none fun K hK=>?_
      refine wp_store_any 110 _ _ rfl gB #[.bool q0,.bool q1,.bool q2,.bool q3] rfl rfl 110 #[.bool false,.bool false,.bool false,.bool false] hB Zk rfl (bool4_one _ _ _ _) (fun W9 u9=>?_);refine hK.out _ _ (hHeld.trans (u9.bel _ hgNB)) (fun hHeld=>?_);clear hK K;(try simp only [Act.put]);refine wpAnyH_done Zk ?_ _;refine NoPanic.normal ?_;go_wp2_with fail;go_meet;exact ⟨gA,gB,rfl,rfl,u9.bx u8.box Zo,u9.box,hgNA,hgNB,hHeld⟩
     ·
      refine wp_alloc_any 27 #[.int .i64 0,.int .i64 0,.int .i64 0] Zk (fun gA WA hg hA hbA=>?_);have hgNA:=Nat.le_trans hHeld.size hg;have hne:=Nat.ne_of_lt (Nat.lt_of_lt_of_le (hB.lt) hg);replace hB:=hB.below hbA;refine hK.out _ _ (b_cl hHeld Zl hbA) (fun hHeld=>?_);clear hK K hbA hg;(try simp only [Zs]);refine Zr 9 (some 49) fun K hK=>?_
      go_simp;(go_at_call 65; refine (CS _ (HK4.out.below hHeld)).mono ?_; rintro e wf ⟨rfl,hbf⟩);go_wp2_with fail;refine hK.out _ _ (b_cl hHeld Zl Zm) (fun hHeld=>?_);replace hA:=hA.below hbf;replace hB:=hB.below hbf;clear hK K hbf;(try simp only [Zs]);refine Zt 10 (some 39) ?_;(try simp only [Zs]);refine Zt 11 (some 50) ?_;(try simp only [Zs]);refine Zt 12 (some 51) ?_;(try simp only [Zs]);refine Zr 15 none fun K hK=>?_
      refine wp_store_any 27 _ _ rfl gA #[.int .i64 a2,.int .i64 u2,.int .i64 v2] rfl rfl 27 #[.int .i64 0,.int .i64 0,.int .i64 0] hA Zk rfl (one3 _ _ _) (fun W8 u8=>?_);refine hK.out _ _ (hHeld.trans (u8.bel _ hgNA)) (fun hHeld=>?_);clear hK K;(try simp only [Act.put]);replace hB:=u8.bx hB Zo;refine Zr 16 none fun K hK=>?_
      refine wp_store_any 110 _ _ rfl gB #[.bool q0,.bool q1,.bool q2,.bool q3] rfl rfl 110 #[.bool false,.bool false,.bool false,.bool false] hB Zk rfl (bool4_one _ _ _ _) (fun W9 u9=>?_);refine hK.out _ _ (hHeld.trans (u9.bel _ hgNB)) (fun hHeld=>?_);clear hK K;(try simp only [Act.put]);refine wpAnyH_done Zk ?_ _;refine NoPanic.normal ?_;go_wp2_with fail;go_meet;exact ⟨gA,gB,rfl,rfl,u9.bx u8.box Zo,u9.box,hgNA,hgNB,hHeld⟩
   case rest =>
   obtain ⟨RA,RB,rfl,rfl,XA,XB,hRA,hRB,hb5⟩:=hcut;rename World=>w5
   have sz3:=HCH0.out.size;have HCH:=Zh (HCH0.out.below hb5);have HXA:=Zh XA;have HXB:=Zh XB;clear hcell XA XB hb5 HCH0 HBS0 CS HKd;go_wp2_with fail;go_loopg [16] 4 (fun g2 s16 wr2=>∃ (d:Nat),d + g2 = 4 /\ s16 = .int .i64 (d:Int) /\ Hid (Chg2 wb (w.heap.size) 27 #[.int .i64 a,.int .i64 u,.int .i64 v] (w2.heap.size) 3 (fs4 (noteN F0 (q0,q1,q2,q3) at_ d)) wr2) /\ Hid (Bx wr2 RA 27 #[.int .i64 a2,.int .i64 u2,.int .i64 v2]) /\ Hid (Bx wr2 RB 110 #[.bool q0,.bool q1,.bool q2,.bool q3]))
   case atStart=>exact ⟨0,by omega,rfl,HCH,HXA,HXB⟩
   case round =>
    clear HCH HXA HXB;obtain ⟨d,hdg,rfl,HCH,HXA,HXB⟩:=hrel;obtain ⟨w6,rfl⟩:∃ w6:World,w6 = wr:=⟨_,rfl⟩;by_cases hd:d < 4
    ·have gd:(d:Int) < 4:=by omega
     obtain ⟨bv,hbv⟩:∃ bv,bget (q0,q1,q2,q3) d = bv:=⟨_,rfl⟩;obtain ⟨fv,hfv⟩:∃ fv,fget F0 d = fv:=⟨_,rfl⟩;have f0:=HXB.out.cell (k:=d) (bl4_at q0 q1 q2 q3 hd);have f1:=HCH.out.box2.cell (k:=d) (fs4_at _ hd);rw [noteN_at _ _ _ hd,hfv] at f1;rw [hbv] at f0;have l0:=HXB.out.lt;have l1:=HCH.out.box2.lt
     cases bv with
     | false =>
      have SK:=Zh (noteN_skip F0 (q0,q1,q2,q3) at_ hd (by rw [hbv]; exact fun h=>absurd h.1 Zd));clear hbv hfv;go_wp2_with fail;go_roundg (4 - (d + 1))
      case measure=>omega
      case rel=>exact ⟨d + 1,by omega,by go_num,by rw [SK.out]; exact HCH,HXA,HXB⟩
     | true =>
      by_cases hf0:fv < 0
      ·have ST:=Zh (noteN_set F0 (q0,q1,q2,q3) at_ hd ⟨hbv,by rw [hfv]; exact hf0⟩)
       clear hbv hfv;go_wp2_with (refine wpList_store_fld Zv 3 _ _ rfl (w2.heap.size) d (.int .i64 at_) rfl rfl rfl 3 _ HCH.out.box2 (by simp [fs4]; omega) Zk (fun w7 u7=>?_));rw [ST.out] at u7;go_roundg (4 - (d + 1))
       case measure=>omega
       case rel=>exact ⟨d + 1,by omega,by go_num,Zh (HCH.out.upd2 u7 Zo),Zh (u7.bx HXA.out Zo),Zh (u7.bx HXB.out Zo)⟩
      ·have gf:0 <= fv:=by omega
       have SK:=Zh (noteN_skip F0 (q0,q1,q2,q3) at_ hd (by rw [hfv]; exact fun h=>hf0 h.2));clear hbv hfv hf0;go_wp2_with fail;go_roundg (4 - (d + 1))
       case measure=>omega
       case rel=>exact ⟨d + 1,by omega,by go_num,by rw [SK.out]; exact HCH,HXA,HXB⟩
    ·obtain rfl:d = 4:=by omega
     have HBS:=Zh HCH.out.box1;have ls6:=HBS.out.lt;have la6:=HXA.out.lt;go_wp2_with (first | go_skip | (refine wpList_load_box Zv 27 _ rfl (RA) rfl 27 #[.int .i64 a2,.int .i64 u2,.int .i64 v2] _ HXA.out Tryz.underlying27 rfl size_spot ?_) | (refine wpList_store_box Zv 27 _ _ rfl (w.heap.size) #[.int .i64 a2,.int .i64 u2,.int .i64 v2] rfl rfl 27 #[.int .i64 a,.int .i64 u,.int .i64 v] HBS.out size_spot rfl (one3 _ _ _) (fun w7 u7=>?_)));have HC7:=Zh (HCH.out.upd1 u7 Zo);go_roundg (N1 - (k + 1))
     case measure=>omega
     case rel=>exact ⟨k + 1,a2,u2,v2,_,by omega,by go_num,HNX,HC7.out⟩
  ·have hkN:(kindsV r).take k = kindsV r:=List.take_of_length_le (by rw [HKL.out]; omega)
   have HE:=HV.out;rw [hkN,HX.out] at HE;injection HE with e1 e2
   injection e1 with e3 e4
   injection e4 with e5 e6
   subst e2 e3 e5 e6;have gk:(N1:Int) <= (k:Int):=by omega
   clear hkN HV;go_wp2_with fail;go_loopg [17,18] 4 (fun g3 s17 s18 wr3=>∃ (d m:Nat) (A2:Option Addr) (c2:Nat),d + g3 = 4 /\ s18 = .int .i64 (d:Int) /\ s17 = .slice A2 m c2 /\ Hid ((outG (GF F) d).length = m) /\ Hid (OwnF wb.heap.size wr3 (.slice A2 m c2) (outG (GF F) d)) /\ Hid (Chg2 wb (w.heap.size) 27 #[.int .i64 z0,.int .i64 z1,.int .i64 z2] (w2.heap.size) 3 (fs4 F) wr3))
   case atStart=>exact ⟨0,0,none,0,by omega,rfl,rfl,Zh rfl,Zh (OwnF.nil _ _),HCH0⟩
   case round =>
    clear HCH0;obtain ⟨d,m,A2,c2,hdg,rfl,rfl,HOL,HO,HCH⟩:=hrel;obtain ⟨w6,rfl⟩:∃ w6:World,w6 = wr:=⟨_,rfl⟩;have hml:=outG_len (GF F) d;rw [HOL.out] at hml;have HLR:=Zh (fun q (hq:(Value.slice A2 m c2).ownBlock = some q)=>(World.ownsRow.lt HO.out q hq).1);by_cases hd:d < 4
    ·have gd:(d:Int) < 4:=by omega
     obtain ⟨fv,hfv⟩:∃ fv,fget F d = fv:=⟨_,rfl⟩;have f1:=HCH.out.box2.cell (k:=d) (fs4_at _ hd);have l1:=HCH.out.box2.lt;have f2:=HFI.out d hd;rw [hfv] at f1 f2;by_cases h0:0 <= fv
     ·have SK:=Zh (outG_yes (F:=F) hd (by rw [hfv]; exact h0))
      rw [hfv] at SK;have sz6:=HCH.out.size
      have HO4:=Zh (show World.ownsRow (w6.drew.alloc (.cells #[.int .i64 ((10 + d:Nat):Int),.int .i64 fv,.int .i64 (fv + 1)] 52)) wb.heap.size 52 3 (.slice A2 m c2) m (flatF (outG (GF F) d)) by
       have:=(HO.out.below (b_dr (Below.refl w6.heap.size w6))).alloc (.cells #[.int .i64 ((10 + d:Nat):Int),.int .i64 fv,.int .i64 (fv + 1)] 52);unfold OwnF at this;rw [HOL.out] at this
       exact this)
      go_upto_region 22 with fail
      (try go_frame);refine wp_region_noPanic ?_;refine wp_region_held_drew (S:=(fun w'=>Bx w' (w2.heap.size) 3 (fs4 F))) Zk ?_ (fun hHeld=>?_)
      ·exact (show Bx w6.drew _ _ _ from HCH.out.box2.below (b_dr (Below.refl _ _)))
      refine Zt 0 (some 82) ?_;(try simp only [Zs]);refine Zt 1 (some 83) ?_;(try simp only [Zs]);refine Zt 2 (some 84) (v:=.int .i64 ((10 + d:Nat):Int)) (hy:=fun w' hSw=>(by go_simp; first | (with_reducible rfl) | exact IntWalk.i64_in _ ⟨by omega,by omega⟩ | (congr 1; exact IntWalk.i64_in _ ⟨by omega,by omega⟩))) ?_;(try simp only [Zs]);refine Zt 3 (some 85) ?_;(try simp only [Zs]);refine Zt 4 (some 86) ?_;(try simp only [Zs]);refine Zt 5 (some 87) ?_;(try simp only [Zs]);refine Zt 6 (some 88) (hy:=by intro w' hSw; have hcc:=hSw.cell (k:=d) (fs4_at _ hd); rw [hfv] at hcc; have hll:=hSw.lt; clear hSw; go_simp; try (with_reducible rfl)) ?_;(try simp only [Zs]);refine Zt 7 (some 89) ?_;(try simp only [Zs]);refine Zt 8 (some 90) ?_;(try simp only [Zs]);refine Zt 9 (some 91) ?_;(try simp only [Zs]);refine Zt 10 (some 92) (hy:=by intro w' hSw; have hcc:=hSw.cell (k:=d) (fs4_at _ hd); rw [hfv] at hcc; have hll:=hSw.lt; clear hSw; go_simp; try (with_reducible rfl)) ?_;(try simp only [Zs]);refine Zt 11 (some 93) (v:=.int .i64 (fv + 1)) (hy:=fun w' hSw=>(by go_simp; first | (with_reducible rfl) | exact IntWalk.i64_in _ ⟨by omega,by omega⟩ | (congr 1; exact IntWalk.i64_in _ ⟨by omega,by omega⟩))) ?_;(try simp only [Zs]);refine Zt 12 (some 94) (v:=.agg #[.int .i64 ((10 + d:Nat):Int),.int .i64 fv,.int .i64 (fv + 1)]) (hy:=fun w' hSw=>exec_build _ _ rfl Zk) ?_;(try simp only [Zs]);refine Zr 13 (some 95) fun K hK=>?_
      go_simp;skip;go_wp2_with fail;refine hK.out _ _ (hHeld.alloc _) (fun hHeld=>?_);clear hK K;(try simp only [Zs]);refine Zr 14 (some 96) fun K hK=>?_
      refine wp_append_own _ _ _ 33 rfl wb.heap.size 52 i0 (.agg #[.int .i64 0,.int .i64 0,.int .i64 0]) 3 24 Tryz.underlying33 hi hz0 hz1 hz2 rfl Zd _ m _ rfl HO4.out ⟨w6.heap.size,0,none⟩ 1 1 [.int .i64 ((10 + d:Nat):Int),.int .i64 fv,.int .i64 (fv + 1)] rfl rfl (find_news rfl) find_cells (by unfold maxLen; omega) Zo (by simp; omega) (fun v7 w7 hown7 hgrow7 _=>?_);refine hK.out _ _ (((hgrow7.block (w2.heap.size) (by simp; have:=HCH.out.box2.lt; omega) (fun e=>by have:=HLR.out (w2.heap.size) e.symm; omega)).trans (show Bx (w6.drew.alloc _) (w2.heap.size) 3 (fs4 F) from (HCH.out.box2.below (b_dr (Below.refl _ _))).alloc _))) (fun hHeld=>?_);clear hK K;(try simp only [Zs]);refine Zt 15 (some 17) ?_;(try simp only [Zs]);refine wpAnyH_done Zk ?_ _;refine NoPanic.normal ?_;have hz7:=hgrow7.size;(try simp only [World.size_alloc] at hz7);replace hz7:w6.heap.size + 1 <= w7.heap.size:=(by first | exact hz7 | simpa using hz7);have hS7:=OwnF.snoc (l:=outG (GF F) d) (by rw [HOL.out]; exact hown7);have HG7:Below wb.heap.size w6 w7:=⟨hgrow7.os,hgrow7.tape,hgrow7.output,by omega,fun q h3=>(hgrow7.block q (by simp; omega) (fun e=>by have:=HLR.out q e.symm; omega)).trans (Below.heap_alloc w6.drew _ q (by show q < w6.heap.size; omega))⟩;obtain ⟨A7,c7,rfl,_⟩:=hS7.read;rw [<- SK.out] at hS7;have HOL7:(outG (GF F) (d + 1)).length = m + 1:=by rw [SK.out,List.length_append,HOL.out]; rfl
      have HX7:(outG (GF F) d).length + 1 = m + 1:=by rw [HOL.out]
      go_wp2_with fail;go_roundg (4 - (d + 1))
      case measure=>omega
      case rel=>exact ⟨d + 1,m + 1,A7,c7,by omega,by go_num,(by first | rfl | (rw [<- SK.out,HOL7]) | (simp [HX7])),Zh HOL7,Zh (by rw [HOL7] at hS7; exact hS7),Zh (HCH.out.own HG7 Zo Zo)⟩
     ·have SK:=Zh (outG_no (F:=F) (c:=d) (by rw [hfv]; exact h0))
      go_wp2_with fail;go_roundg (4 - (d + 1))
      case measure=>omega
      case rel=>exact ⟨d + 1,m,A2,c2,by omega,by go_num,rfl,by rw [SK.out]; exact HOL,by rw [SK.out]; exact HO,HCH⟩
    ·obtain rfl:d = 4:=by omega
     have HBS:=Zh HCH.out.box1;have t0:=HBS.out.cell (k:=0) rfl;have ls6:=HBS.out.lt;have sz6:=HCH.out.size;have HQ6:=Zh (HCH.out.bx HQb.out Zo Zo);have HR6:=Zh (HR.out.below (HBb.out.trans (HCH.out.bel Zl Zo Zo)));have HB6:=Zh (HBb.out.trans (HCH.out.bel (n:=w.heap.size) Zl Zo Zo));clear HFI;by_cases hz:z0 < (n:Int)
     ·have HIF:=Zh (fun (X Y:List Rc)=>(if_pos hz:(if z0 < (n:Int) then X else Y) = X))
      have HLR2:=HLR
      have HO5:=fun v1 v2 v3=>Zh (show World.ownsRow (w6.alloc (.cells #[.int .i64 v1,.int .i64 v2,.int .i64 v3] 52)) wb.heap.size 52 3 (.slice A2 m c2) m (flatF (outG (GF F) 4)) by
       have:=HO.out.alloc (.cells #[.int .i64 v1,.int .i64 v2,.int .i64 v3] 52);unfold OwnF at this;rw [HOL.out] at this
       exact this)
      by_cases h0:n' = 0
      ·obtain rfl:lv = 0:=LTB.out.1 h0
       have g0:(n':Int) <= 0:=by omega
       clear h0;go_wp2_with (first | go_skip | (at_builtin; refine wpList_append_own _ rfl _ _ 33 rfl wb.heap.size 52 i0 (.agg #[.int .i64 0,.int .i64 0,.int .i64 0]) 3 24 Tryz.underlying33 hi hz0 hz1 hz2 rfl Zd _ _ _ rfl (HO5 14 0 1).out ⟨w6.heap.size,0,none⟩ 1 1 [.int .i64 14,.int .i64 0,.int .i64 1] rfl rfl (find_news (by simp)) find_cells (by unfold maxLen; omega) Zo (by simp; omega) ?_; intro v6 w8 hown6 hgrow6 _; have hS6:=OwnF.snoc (l:=outG (GF F) 4) (by rw [HOL.out]; exact hown6); obtain ⟨A6,c6,rfl,_⟩:=hS6.read; have HO6:=Zh hS6; have hz6:=hgrow6.size; (try simp only [World.size_alloc] at hz6); have HG6:=Zh (show Below wb.heap.size w6 w8 from ⟨hgrow6.os,hgrow6.tape,hgrow6.output,by omega,fun q h3=>(hgrow6.block q (by simp; omega) (fun e=>by have:=HLR.out q e.symm; omega)).trans (Below.heap_alloc w6 _ q Zo)⟩); clear hown6 hgrow6 hS6; have HS8:=Zh (show Bx w8 (w.heap.size) 27 #[.int .i64 z0,.int .i64 z1,.int .i64 z2] from (HG6.out.block _ Zo).trans HBS.out); have HQ8:=Zh (show Bx w8 (w.heap.size + 1) 27 #[.int .i64 0,.int .i64 0,.int .i64 0] from (HG6.out.block _ Zo).trans HQ6.out); have ls8:=HS8.out.lt; have lq8:=HQ8.out.lt) | (refine wpList_load_box Zv 27 _ rfl (w.heap.size) rfl 27 #[.int .i64 z0,.int .i64 z1,.int .i64 z2] _ HS8.out Tryz.underlying27 rfl size_spot ?_) | (refine wpList_store_box Zv 27 _ _ rfl (w.heap.size + 1) #[.int .i64 z0,.int .i64 z1,.int .i64 z2] rfl rfl 27 #[.int .i64 0,.int .i64 0,.int .i64 0] HQ8.out size_spot rfl (one3 _ _ _) (fun w7 u7=>?_)));have HOL7:(outG (GF F) 4 ++ [(14,0,1)]).length = m + 1:=by rw [List.length_append,HOL.out]; rfl
       have hS9:=OwnF.upd HO6.out u7 Zo;rw [HOL7] at hS9;refine bodyPost_ret (results_box3 Tryz.results29 _ _ (w.heap.size + 1) 27 #[.int .i64 z0,.int .i64 z1,.int .i64 z2] _ (.slice A6 (m + 1) c6) (.int .i64 0) rfl u7.box (by first | rfl | (rw [<- HOL7]; rfl) | (rw [<- HOL.out]; rfl)) rfl Tryz.underlying27 rfl size_spot) rfl ?_;(try rw [HIF.out]);refine ⟨A6,m + 1,c6,rfl,(by first | exact HOL7 | (rw [HOL.out]) | (simp [HOL.out])),?_,?_,HB6.out.trans ((HG6.out.mono Zo).trans (u7.bel _ Zo))⟩
       ·obtain ⟨A3,c3,hA,hrd,_⟩:=hS9.read
        injection hA with hA1 _ _
        exact hA1 ▸ hrd
       ·obtain ⟨A3,c3,hA,_,hzz⟩:=hS9.read
        injection hA with hA1 _ hA3
        exact hA1 ▸ hA3 ▸ hzz
      ·obtain ⟨e1,e2,e3⟩:=LTB.out.2 Zo
       have g0:(0:Int) < (n':Int):=by omega
       have e4:ef - 1 = lv:=e1.symm;clear e1;have e5:IntKind.i64.wrap lv = lv:=IntWalk.i64_in _ ⟨by omega,by omega⟩;go_wp2_with (first | go_skip | (go_at_call 66; refine (CE _ HR6.out).mono ?_; rintro e w6' ⟨rfl,rfl⟩) | (at_builtin; refine wpList_append_own _ rfl _ _ 33 rfl wb.heap.size 52 i0 (.agg #[.int .i64 0,.int .i64 0,.int .i64 0]) 3 24 Tryz.underlying33 hi hz0 hz1 hz2 rfl Zd _ _ _ rfl (HO5 14 lv (lv + 1)).out ⟨w6.heap.size,0,none⟩ 1 1 [.int .i64 14,.int .i64 lv,.int .i64 (lv + 1)] rfl rfl (find_news (by simp)) find_cells (by unfold maxLen; omega) Zo (by simp; omega) ?_; intro v6 w8 hown6 hgrow6 _; have hS6:=OwnF.snoc (l:=outG (GF F) 4) (by rw [HOL.out]; exact hown6); obtain ⟨A6,c6,rfl,_⟩:=hS6.read; have HO6:=Zh hS6; have hz6:=hgrow6.size; (try simp only [World.size_alloc] at hz6); have HG6:=Zh (show Below wb.heap.size w6 w8 from ⟨hgrow6.os,hgrow6.tape,hgrow6.output,by omega,fun q h3=>(hgrow6.block q (by simp; omega) (fun e=>by have:=HLR.out q e.symm; omega)).trans (Below.heap_alloc w6 _ q Zo)⟩); clear hown6 hgrow6 hS6; have HS8:=Zh (show Bx w8 (w.heap.size) 27 #[.int .i64 z0,.int .i64 z1,.int .i64 z2] from (HG6.out.block _ Zo).trans HBS.out); have HQ8:=Zh (show Bx w8 (w.heap.size + 1) 27 #[.int .i64 0,.int .i64 0,.int .i64 0] from (HG6.out.block _ Zo).trans HQ6.out); have ls8:=HS8.out.lt; have lq8:=HQ8.out.lt) | (refine wpList_load_box Zv 27 _ rfl (w.heap.size) rfl 27 #[.int .i64 z0,.int .i64 z1,.int .i64 z2] _ HS8.out Tryz.underlying27 rfl size_spot ?_) | (refine wpList_store_box Zv 27 _ _ rfl (w.heap.size + 1) #[.int .i64 z0,.int .i64 z1,.int .i64 z2] rfl rfl 27 #[.int .i64 0,.int .i64 0,.int .i64 0] HQ8.out size_spot rfl (one3 _ _ _) (fun w7 u7=>?_)));have HOL7:(outG (GF F) 4 ++ [(14,lv,(lv + 1))]).length = m + 1:=by rw [List.length_append,HOL.out]; rfl
       have hS9:=OwnF.upd HO6.out u7 Zo;rw [HOL7] at hS9;refine bodyPost_ret (results_box3 Tryz.results29 _ _ (w.heap.size + 1) 27 #[.int .i64 z0,.int .i64 z1,.int .i64 z2] _ (.slice A6 (m + 1) c6) (.int .i64 0) rfl u7.box (by first | rfl | (rw [<- HOL7]; rfl) | (rw [<- HOL.out]; rfl)) rfl Tryz.underlying27 rfl size_spot) rfl ?_;(try rw [HIF.out]);refine ⟨A6,m + 1,c6,rfl,(by first | exact HOL7 | (rw [HOL.out]) | (simp [HOL.out])),?_,?_,HB6.out.trans ((HG6.out.mono Zo).trans (u7.bel _ Zo))⟩
       ·obtain ⟨A3,c3,hA,hrd,_⟩:=hS9.read
        injection hA with hA1 _ _
        exact hA1 ▸ hrd
       ·obtain ⟨A3,c3,hA,_,hzz⟩:=hS9.read
        injection hA with hA1 _ hA3
        exact hA1 ▸ hA3 ▸ hzz
     ·have HIF:=Zh (fun (X Y:List Rc)=>(if_neg hz:(if z0 < (n:Int) then X else Y) = Y))
      have hz':(n:Int) <= z0:=by omega
      obtain ⟨A3,c3,hA,hrd,hzz⟩:=HO.out.read;injection hA with hA1 hA2 hA3
      clear hA2;subst hA1 hA3;have HRD:=Zh hrd;clear hrd;go_wp2_with (first | go_skip | (refine wpList_load_box Zv 27 _ rfl (w.heap.size) rfl 27 #[.int .i64 z0,.int .i64 z1,.int .i64 z2] _ HBS.out Tryz.underlying27 rfl size_spot ?_) | (refine wpList_store_box Zv 27 _ _ rfl (w.heap.size + 1) #[.int .i64 z0,.int .i64 z1,.int .i64 z2] rfl rfl 27 #[.int .i64 0,.int .i64 0,.int .i64 0] HQ6.out size_spot rfl (one3 _ _ _) (fun w7 u7=>?_)));refine bodyPost_ret (results_box3 Tryz.results29 _ _ (w.heap.size + 1) 27 #[.int .i64 z0,.int .i64 z1,.int .i64 z2] _ (.slice A2 m c2) (.int .i64 0) rfl u7.box rfl rfl Tryz.underlying27 rfl size_spot) rfl ?_;(try rw [HIF.out]);(try rw [List.append_nil]);refine ⟨A2,m,c2,rfl,HOL.out,?_,hzz,HB6.out.trans (u7.bel _ Zo)⟩;obtain ⟨A3,c3,hA,hrd,_⟩:=(OwnF.upd HO.out u7 Zo).read;injection hA with hA1 _ _
      exact hA1 ▸ hrd
set_option maxRecDepth 20000 in
set_option maxHeartbeats 2000000 in
theorem raud20_any (A:Option Addr) (n c:Nat) (l:List Tk) (hn:l.length = n) (i x y:Int) (A':Option Addr) (n' c':Nat) (r:List Rc) (hn':r.length = n') (w:World) (h:RdK w A l) (hf:Few l) (hr:RdR w A' r) (hl:n' <= 4611686018427387904) {p:Pt} {fl:List Rc} {er:Int} (hV:audV l (i,x,y) r = (p,fl,er)) {m:Nat} (hm:fl.length = m) :
  Calls Tryz.prog 29 #[.slice A n c,.agg #[.int .i64 i,.int .i64 x,.int .i64 y],.slice A' n' c'] w fun e w'=>∃ A2 c2,e = .returned (.tuple #[.agg (sp3 p),.slice A2 m c2,.int .i64 er]) /\ RdF w' A2 fl /\ (A2 = none -> c2 = 0) /\ Below w.heap.size w w':=by
 have C:Calls Tryz.prog 29 #[.slice A n c,.agg #[.int .i64 i,.int .i64 x,.int .i64 y],.slice A' n' c'] w fun e w'=>∃ A2 m2 c2,e = .returned (.tuple #[.agg (sp3 (audV l (i,x,y) r).1),.slice A2 m2 c2,.int .i64 (audV l (i,x,y) r).2.2]) /\ (audV l (i,x,y) r).2.1.length = m2 /\ RdF w' A2 (audV l (i,x,y) r).2.1 /\ (A2 = none -> c2 = 0) /\ Below w.heap.size w w':=by
  by_cases he:checkE l (i,x,y) r = 0
  ·exact raud20_good A n c l hn i x y A' n' c' r hn' w h hf hr hl he
  ·exact raud20_bad A n c l hn i x y A' n' c' r hn' w h hf hr hl rfl he
 rw [hV] at C;refine C.mono ?_;rintro e w' ⟨A2,m2,c2,rfl,h1,h2,h3,h4⟩;simp only at h1;rw [hm] at h1;subst h1;exact ⟨A2,c2,rfl,h2,h3,h4⟩
end Go.Proofs.YtiamnbddbmgffaaGreatDoor
