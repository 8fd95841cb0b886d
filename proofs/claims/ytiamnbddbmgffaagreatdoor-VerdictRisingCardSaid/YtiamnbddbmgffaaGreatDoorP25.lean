/- How tasks of which all is done are gone past, by the code and by the document. Conditions: the tasks can be read and may be, and the spot is near to a right one. -/
import Derived.Test.YtiamnbddbmgffaaGreatDoorRows
import Derived.Test.YtiamnbddbmgffaaGreatDoorP24
namespace Go.Proofs.YtiamnbddbmgffaaGreatDoor
open Go.RowKit
set_option linter.unusedVariables false
theorem one3 (a b c:Int):(#[.int .i64 a,.int .i64 b,.int .i64 c]:Array Value).all (·.oneCell') = true:=by simp [Value.oneCell']
theorem size_spot:(Tryz.prog.info? 27).map (·.size) = some 3:=by kernel_rfl
def sp3 (s:Pt):Array Value:=#[.int .i64 s.1,.int .i64 s.2.1,.int .i64 s.2.2]
theorem near_task {l:List Tk} (ok:∀ t ∈ l,TkOk t) {k:Nat} {x y:Int} (hs:Near l (k,x,y)) (hk:k < l.length):TkOk (tk l k) /\ 0 <= x /\ x <= (tk l k).1 /\ 0 <= y /\ y <= (tk l k).2.1:=by
 have:=hs.2.2.2 (by simp only; omega);exact ⟨ok _ (tk_mem Zo Zo),this.1,this.2.1,this.2.2.1,this.2.2.2.1⟩
set_option maxRecDepth 20000 in
set_option maxHeartbeats 2000000 in
theorem past19_any (A:Option Addr) (n c:Nat) (l:List Tk) (hn:l.length = n) (i x y:Int) (w:World) (h:RdK w A l) (hl:n <= 4611686018427387904) (ok:∀ t ∈ l,TkOk t) (hs:Near l (i,x,y)) :
  Calls Tryz.prog 175 #[.slice A n c,.agg #[.int .i64 i,.int .i64 x,.int .i64 y]] w fun e w'=>e = .returned (.agg (sp3 (pastT l (i,x,y)))) /\ Below w.heap.size w w':=by
 obtain ⟨P,hP⟩:∃ P,pastT l (i,x,y) = P:=⟨_,rfl⟩;rw [hP];have OK:=Zh ok;have HN:=Zh hn;have h0:0 <= i:=hs.1;have h1:i <= n:=by have:=hs.2.1; rw [hn] at this; exact this
 obtain ⟨k,rfl⟩:∃ k:Nat,i = k:=⟨i.toNat,by omega⟩;have HS:=Zh hs;have HP:=Zh hP;have HK:=Zh h;clear h0 hs hP ok h hn;have X1:Bx ((w.alloc (.cells #[.int .i64 k,.int .i64 x,.int .i64 y] 27)).alloc (.cells #[.int .i64 0,.int .i64 0,.int .i64 0] 27)) w.heap.size 27 #[.int .i64 k,.int .i64 x,.int .i64 y]:=(Bx.new (W:=w) _ _ rfl).alloc _;have X2:Bx ((w.alloc (.cells #[.int .i64 k,.int .i64 x,.int .i64 y] 27)).alloc (.cells #[.int .i64 0,.int .i64 0,.int .i64 0] 27)) (w.heap.size + 1) 27 #[.int .i64 0,.int .i64 0,.int .i64 0]:=Bx.new (W:=w.alloc (.cells #[.int .i64 k,.int .i64 x,.int .i64 y] 27)) _ _ (by simp);have HX1:=Zh X1;have HX2:=Zh X2;clear X1 X2;go_enter Tryz.func175,Tryz.ntmps175;go_wp2;go_step3;go_wp2;go_step3;go_wp2;go_loopg [5] (n - k) (fun g s5 wr=>∃ (k:Nat) (x y:Int),k + g = n /\ Hid (Near l (k,x,y)) /\ Hid (pastT l (k,x,y) = P) /\ Bx wr w.heap.size 27 #[.int .i64 k,.int .i64 x,.int .i64 y] /\ Bx wr (w.heap.size + 1) 27 #[.int .i64 0,.int .i64 0,.int .i64 0] /\ Below w.heap.size w wr)
 case atStart=>exact ⟨k,x,y,by omega,HS,HP,HX1.out,HX2.out,Zq⟩
 case round =>
  clear HS HP HX1 HX2 h1;obtain ⟨k,x,y,hg,HS,HP,B1,B2,hb⟩:=hrel;have hsz:=hb.size;have HK1:=Zh (HK.out.below hb);have p0:=B1.cell (k:=0) rfl;have p1:=B1.cell (k:=1) rfl;have p2:=B1.cell (k:=2) rfl;have lt1:=B1.lt;have lt2:=B2.lt;by_cases hk:k < n
  ·obtain ⟨tok,t1,t2,t3,t4⟩:=near_task OK.out HS.out (by rw [HN.out]; exact hk)
   have CL:=fun W (h:RdK W A l)=>left19_in A n c l HN.out k x y W h hk
   have z1:=tok.1;have z2:=tok.2.1;have z3:=tok.2.2.1;have z4:=tok.2.2.2;rw [IntWalk.wrap64_in _ Zo,IntWalk.wrap64_in _ Zo] at CL;obtain ⟨p,hp⟩:∃ p,(tk l k).1 - x = p:=⟨_,rfl⟩;obtain ⟨q,hq⟩:∃ q,(tk l k).2.1 - y = q:=⟨_,rfl⟩;rw [hp,hq] at CL
   have HF:=Zh (show Full l (k,x,y) ↔ p = 0 /\ q = 0 by
    have:=HN.out;unfold Full; dsimp only;constructor
    ·rintro ⟨_,a,b⟩; exact ⟨by omega,by omega⟩
    ·rintro ⟨a,b⟩; exact ⟨by omega,by omega,by omega⟩)
   have y1:0 <= p:=by omega
   have y2:0 <= q:=by omega
   have hne:((k:Int) == (n:Int)) = false:=by simp; omega
   clear tok t1 t2 t3 t4 z1 z2 z3 z4 hp hq;by_cases hf:p = 0 /\ q = 0
   ·have NS:=Zh (HS.out.move OK.out (HF.out.2 hf))
    have NP:=Zh ((pastT_move (HF.out.2 hf)).symm.trans HP.out);obtain ⟨rfl,rfl⟩:=hf;clear HF HS HP
    go_wp2_with (first
     | (go_at_call 141; refine (CL _ HK1.out).mono ?_; rintro e w3 ⟨rfl,hb3⟩; have B13:=B1.below hb3; have B23:=B2.below hb3; have hz3:=hb3.size; have r0:=B13.cell (k:=0) rfl; have r1:=B13.cell (k:=1) rfl; have r2:=B13.cell (k:=2) rfl)
     | (refine wpList_store_box rfl 27 _ _ rfl (w.heap.size) #[.int .i64 ((k:Int) + 1),.int .i64 0,.int .i64 0] rfl rfl 27 _ (B13) size_spot rfl (one3 _ _ _) (fun w4 u4=>?_)))
    go_roundg (n - (k + 1))
    case measure=>omega
    case rel=>exact ⟨k + 1,0,0,by omega,NS,NP,u4.box,u4.bx B23 Zo,(b_cl hb Zl hb3).trans (u4.bel _ Zl)⟩
   ·have NP:=Zh ((pastT_still (fun c=>hf (HF.out.1 c))).symm.trans HP.out)
    clear HF HS HP;by_cases hp0:0 < p
    ·clear hf
     go_wp2_with (first
      | (go_at_call 141; refine (CL _ HK1.out).mono ?_; rintro e w3 ⟨rfl,hb3⟩; have B13:=B1.below hb3; have B23:=B2.below hb3; have hz3:=hb3.size; have r0:=B13.cell (k:=0) rfl; have r1:=B13.cell (k:=1) rfl; have r2:=B13.cell (k:=2) rfl)
      | refine wpList_load_box Zv 27 _ rfl (w.heap.size) rfl 27 #[.int .i64 k,.int .i64 x,.int .i64 y] _ (B13) Tryz.underlying27 rfl size_spot ?_
      | (refine wpList_store_box rfl 27 _ _ rfl (w.heap.size + 1) #[.int .i64 k,.int .i64 x,.int .i64 y] rfl rfl 27 _ (B23) size_spot rfl (one3 _ _ _) (fun w4 u4=>?_)))
     rw [Exit.noGoto_ret];refine bodyPost_ret (v:=.agg #[.int .i64 k,.int .i64 x,.int .i64 y]) (results_box1 Tryz.results175 _ _ (w.heap.size + 1) 27 #[.int .i64 k,.int .i64 x,.int .i64 y] _ rfl u4.box Tryz.underlying27 rfl size_spot) rfl ⟨?_,?_⟩
     ·rw [<- NP.out]; rfl
     ·exact (b_cl hb Zl hb3).trans (u4.bel _ Zo)
    ·obtain rfl:p = 0:=by omega
     have hq0:0 < q:=by omega
     clear hf hp0
     go_wp2_with (first
      | (go_at_call 141; refine (CL _ HK1.out).mono ?_; rintro e w3 ⟨rfl,hb3⟩; have B13:=B1.below hb3; have B23:=B2.below hb3; have hz3:=hb3.size; have r0:=B13.cell (k:=0) rfl; have r1:=B13.cell (k:=1) rfl; have r2:=B13.cell (k:=2) rfl)
      | refine wpList_load_box Zv 27 _ rfl (w.heap.size) rfl 27 #[.int .i64 k,.int .i64 x,.int .i64 y] _ (B13) Tryz.underlying27 rfl size_spot ?_
      | (refine wpList_store_box rfl 27 _ _ rfl (w.heap.size + 1) #[.int .i64 k,.int .i64 x,.int .i64 y] rfl rfl 27 _ (B23) size_spot rfl (one3 _ _ _) (fun w4 u4=>?_)))
     rw [Exit.noGoto_ret];refine bodyPost_ret (v:=.agg #[.int .i64 k,.int .i64 x,.int .i64 y]) (results_box1 Tryz.results175 _ _ (w.heap.size + 1) 27 #[.int .i64 k,.int .i64 x,.int .i64 y] _ rfl u4.box Tryz.underlying27 rfl size_spot) rfl ⟨?_,?_⟩
     ·rw [<- NP.out]; rfl
     ·exact (b_cl hb Zl hb3).trans (u4.bel _ Zo)
  ·obtain rfl:k = n:=by omega
   have NP:=Zh ((pastT_still (fun c:Full l (k,x,y)=>by have:=c.1; have:=HN.out; simp only at *; omega)).symm.trans HP.out);have CL:=fun W=>left19_end A k c (k:Int) x y W rfl
   have heq:((k:Int) == (k:Int)) = true:=by simp
   clear HS HP
   go_wp2_with (first
    | (go_at_call 141; refine (CL _).mono ?_; rintro e w3 ⟨rfl,hb3⟩; have B13:=B1.below hb3; have B23:=B2.below hb3; have hz3:=hb3.size; have r0:=B13.cell (k:=0) rfl; have r1:=B13.cell (k:=1) rfl; have r2:=B13.cell (k:=2) rfl)
    | refine wpList_load_box Zv 27 _ rfl (w.heap.size) rfl 27 #[.int .i64 k,.int .i64 x,.int .i64 y] _ (B13) Tryz.underlying27 rfl size_spot ?_
    | (refine wpList_store_box rfl 27 _ _ rfl (w.heap.size + 1) #[.int .i64 k,.int .i64 x,.int .i64 y] rfl rfl 27 _ (B23) size_spot rfl (one3 _ _ _) (fun w4 u4=>?_)))
   rw [Exit.noGoto_ret];refine bodyPost_ret (v:=.agg #[.int .i64 k,.int .i64 x,.int .i64 y]) (results_box1 Tryz.results175 _ _ (w.heap.size + 1) 27 #[.int .i64 k,.int .i64 x,.int .i64 y] _ rfl u4.box Tryz.underlying27 rfl size_spot) rfl ⟨?_,?_⟩
   ·rw [<- NP.out]; rfl
   ·exact (b_cl hb Zl hb3).trans (u4.bel _ Zo)
end Go.Proofs.YtiamnbddbmgffaaGreatDoor
