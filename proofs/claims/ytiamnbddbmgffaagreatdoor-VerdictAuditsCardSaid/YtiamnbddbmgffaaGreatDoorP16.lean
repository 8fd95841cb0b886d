/- Texts of the proofs of VerdictAudits, VerdictAll, VerdictRising, pressed: DutySet, MeterChk, StretchSt, BoxRes, StretchLaws, DutySt, DutyFrom, RowBlock, ClauseSet. Conditions: as each theorem says. -/
import Derived.Test.YtiamnbddbmgffaaGreatDoorRows
import Derived.Test.YtiamnbddbmgffaaGreatDoorP15
import Derived.Maps.RangeWalk
import Derived.Shelf.Abstract
import Derived.StillTailTactics
import Derived.Laws.BitsLemmas
namespace Go.Proofs.YtiamnbddbmgffaaGreatDoor
open Go.RowKit
set_option linter.unusedVariables false
theorem or_nat16 (a b:Nat) (ha:a < 65536) (hb:b < 65536):bits .or .i64 (a:Int) (b:Int) = ((a ||| b:Nat):Int):=by
 have hx:a ||| b < 2 ^ 16:=Nat.or_lt_two_pow (n:=16) Zo Zo
 show IntKind.i64.wrap ((BitVec.ofInt 64 (a:Int) ||| BitVec.ofInt 64 (b:Int)).toNat:Int) = _
 rw [BitVec.toNat_or,ofInt_n64 a Zo,ofInt_n64 b Zo];generalize a ||| b = c at hx
 have:IntKind.i64.wrap (c:Int) = (c:Int):=by
  simp [IntKind.wrap,IntKind.bits,IntKind.signed];omega
 exact this
theorem pow_lt16 {k:Nat} (hk:k < 16):2 ^ k < 65536:=Nat.pow_lt_pow_right (m:=k) (n:=16) Zo hk
theorem shl_one {k:Nat} (hk:k < 16):IntKind.i64.wrap (2 ^ k) = ((2 ^ k:Nat):Int):=by
 have h:=pow_lt16 hk;have e:(2:Int) ^ k = ((2 ^ k:Nat):Int):=by rw [Int.natCast_pow]; rfl
 rw [e];generalize 2 ^ k = c at h;simp [IntKind.wrap,IntKind.bits,IntKind.signed];omega
set_option maxRecDepth 20000 in
set_option maxHeartbeats 1000000 in
theorem set16_any (A:Option Addr) (c n:Nat) (l:List Rc) (w:World) (hn:l.length = n) (hr:RdF w A l) (hl:n <= 1000000) :
  Calls Tryz.prog 45 #[.slice A n c] w fun e w'=>e = .returned (.int .i64 (setL l:Nat)) /\ Below w.heap.size w w':=by
 have HR:=Zh hr;have HN:=Zh hn;clear hn hr;go_enter Tryz.func45,Tryz.ntmps45;go_wp2;go_loopw [3,8] (fun v i wr=>∃ k s:Nat,k <= n /\ i = .int .i64 k /\ v = .int .i64 (s:Nat) /\ Hid (setL (l.take k) = s) /\ s < 65536 /\ Hid (Below w.heap.size w wr)) (fun _ i _=>n - (intOf i).toNat)
 case atStart=>exact ⟨0,0,Nat.zero_le _,rfl,rfl,Zh rfl,by decide,Zh (Below.refl _ _)⟩
 case round =>
  obtain ⟨k,s,hk,rfl,rfl,HS,hs,hb⟩:=hrel;obtain ⟨w3,rfl⟩:∃ w3:World,w3 = wr:=⟨_,rfl⟩;by_cases hlt:k < n
  ·have hlt':k < l.length:=by rw [HN.out]; exact hlt
   obtain ⟨b,off,x,y,z,rfl,hbb,hc0,hc1,hc2,hq⟩:=HR.out.at_ hlt';rw [<- hb.out.cell (p:=⟨b,_,none⟩) hbb] at hc0 hc1 hc2;have hbr:b < w3.heap.size:=by have:=hb.out.size; omega
   have ST:=setL_take hlt' hq.out;rw [HS.out] at ST;have HB:=Zh (hb.out.alloc hb.out.size (.cells #[.int .i64 x,.int .i64 y,.int .i64 z] 52));by_cases hc:isC x
   ·rw [if_pos hc] at ST
    obtain ⟨q,hq16,rfl⟩:=isC_of hc;rw [Int.toNat_natCast] at ST;have hp:=pow_lt16 hq16;have e1:=shl_one hq16;have e2:=or_nat16 s (2 ^ q) hs hp;have hs2:s ||| 2 ^ q < 65536:=Nat.or_lt_two_pow (n:=16) Zo Zo;have g1:decide ((0:Int) <= (q:Int)) = true:=decide_eq_true Zo;have g2:decide ((q:Int) < 16) = true:=decide_eq_true Zo;have g3:(0:Int) <= (q:Int):=by omega
    have g4:(q:Int) < 16:=by omega
    have HST:=Zh ST;clear hc ST hp;go_wp2;go_roundw
    case rel=>exact ⟨k + 1,s ||| 2 ^ q,by omega,by go_num,by simp_all,Zh HST.out,hs2,HB⟩
    case measure=>simp [intOf]; omega
   ·rw [if_neg hc] at ST
    have HST:=Zh ST;clear ST;by_cases h0:0 <= x
    ·have h1:¬ x < 16:=fun h=>hc ⟨h0,h⟩
     clear hc;go_wp2;go_roundw
     case rel=>exact ⟨k + 1,s,by omega,by go_num,rfl,Zh HST.out,hs,HB⟩
     case measure=>simp [intOf]; omega
    ·clear hc
     go_wp2;go_roundw
     case rel=>exact ⟨k + 1,s,by omega,by go_num,rfl,Zh HST.out,hs,HB⟩
     case measure=>simp [intOf]; omega
  ·obtain rfl:k = n:=by omega
   have e:setL l = s:=by
    have:=HS.out;rwa [List.take_of_length_le (Nat.le_of_eq HN.out)] at this
   go_wp2;go_ret;exact ⟨by rw [e]; rfl,hb.out⟩
open Classical in
noncomputable def dcheckV (x:Nat -> Int) (l:List Rc):Int:=if May x then (if (checkV l).2 = 0 then (if beg l = 0 then 0 else 5) else (checkV l).2) else 14
theorem beg_at16 {l:List Rc} {y:Int} (h:0 < l.length) (hy:(l.getD 0 rz).2.1 = y):beg l = y:=by
 cases l with
 | nil=>cases h
 | cons r l=>exact hy
section
variable (x:Nat -> Int) (A:Option Addr) (c:Nat) (l:List Rc) (w:World) (h:RdR w A l) (hl:l.length <= 1000000)
include h hl
set_option maxRecDepth 100000 in
set_option maxHeartbeats 1000000 in
theorem dcheck_any:Calls Tryz.prog 42 #[.agg (bk x),.slice A l.length c] w fun e w'=>e = .returned (.int .i64 (dcheckV x l)) /\ Below w.heap.size w w':=by
 have C1:∀ W,Calls Tryz.prog 38 #[.agg (bk x)] W _:=fun W=>check7_any x W
 have RB:RdI (w.alloc (.cells (bk x) 23)) w.heap.size 0 x:=RdI.new x 23 rfl;have hB0:Below w.heap.size w (w.alloc (.cells (bk x) 23)):=b_al (Below.refl _ _) Zl _;unfold dcheckV;by_cases hx:May x
 case neg =>
  simp only [if_neg hx] at C1 ⊢;clear hx;go_enter Tryz.func42,Tryz.ntmps42;go_wp2_with (first | refine wpList_load_bk Zv 23 _ rfl _ _ rfl x _ Zm Tryz.underlying23 rfl Zk ?_ | (go_at_call 38; (with_reducible refine (C1 _).mono ?_); rintro e w1 ⟨rfl,hb1⟩));go_ret;exact ⟨rfl,b_cl hB0 Zl hb1⟩
 simp only [if_pos hx] at C1 ⊢;clear hx;have C2:=fun W h=>rcheck_any A c l W h Zo
 generalize ((checkV l).1:Int) = pl at C2;by_cases he:(checkV l).2 = 0
 case neg =>
  rw [if_neg he];generalize (checkV l).2 = er at C2 he ⊢;have ne:(er != 0) = true:=by simpa using he
  have ne2:(er == 0) = false:=by simpa using he
  clear he;go_enter Tryz.func42,Tryz.ntmps42;go_wp2_with (first | refine wpList_load_bk Zv 23 _ rfl _ _ rfl x _ Zm Tryz.underlying23 rfl Zk ?_ | (go_at_call 38; (with_reducible refine (C1 _).mono ?_); rintro e w1 ⟨rfl,hb1⟩; have B1:=b_cl hB0 Zl hb1) | (go_at_call 41; (with_reducible refine (C2 _ (h.below B1)).mono ?_); rintro e w2 ⟨rfl,hb2⟩));go_ret;exact ⟨rfl,b_cl B1 Zl hb2⟩
 rw [if_pos he];rw [he] at C2;clear he;by_cases h0:l.length = 0
 case pos =>
  obtain rfl:=List.eq_nil_of_length_eq_zero h0;rw [if_pos (show beg [] = 0 from rfl)];clear h0;simp only [List.length_nil] at C2 ⊢;go_enter Tryz.func42,Tryz.ntmps42;go_wp2_with (first | refine wpList_load_bk Zv 23 _ rfl _ _ rfl x _ Zm Tryz.underlying23 rfl Zk ?_ | (go_at_call 38; (with_reducible refine (C1 _).mono ?_); rintro e w1 ⟨rfl,hb1⟩; have B1:=b_cl hB0 Zl hb1) | (go_at_call 41; (with_reducible refine (C2 _ (h.below B1)).mono ?_); rintro e w2 ⟨rfl,hb2⟩));go_ret;exact ⟨rfl,b_cl B1 Zl hb2⟩
 have h0':0 < l.length:=by omega
 have g0:decide ((0:Int) < (l.length:Int)) = true:=decide_eq_true Zo;have hlt0:(0:Int) < (l.length:Int):=by omega
 obtain ⟨b,off,q1,q2,q3,rfl,hbb,hc0,hc1,hc2,hs⟩:=h.at_ h0';simp only [Nat.zero_mul,Nat.add_zero] at hc0 hc1 hc2;have hq:beg l = q2:=beg_at16 h0' (y:=q2) (by rw [hs.out]);rw [hq];obtain ⟨r,hr⟩:∃ r:Int,(if q2 = 0 then (0:Int) else 5) = r:=⟨_,rfl⟩;rw [hr]
 have hr2:(q2 != 0) = (r == 5):=by
  rw [<- hr];by_cases hz:q2 = 0
  ·simp [hz]
  ·simp [hz]
 have hr3:r = 0 ∨ r = 5:=by rw [<- hr]; split <;> simp
 clear hr hq hs hc0 hc2 h0 h0';obtain ⟨n,hn⟩:∃ n,l.length = n:=⟨_,rfl⟩;rw [hn] at hlt0 g0 C2 ⊢;clear hn
 rcases hr3 with rfl | rfl
 ·have ne:(q2 != 0) = false:=by rw [hr2]; rfl
  have ne2:(q2 == 0) = true:=by simpa using ne
  clear hr2;go_enter Tryz.func42,Tryz.ntmps42;go_wp2_with (first | refine wpList_load_bk Zv 23 _ rfl _ _ rfl x _ Zm Tryz.underlying23 rfl Zk ?_ | (go_at_call 38; (with_reducible refine (C1 _).mono ?_); rintro e w1 ⟨rfl,hb1⟩; have B1:=b_cl hB0 Zl hb1) | (go_at_call 41; (with_reducible refine (C2 _ (h.below B1)).mono ?_); rintro e w2 ⟨rfl,hb2⟩; have B2:=b_cl B1 Zl hb2; have hc1:=(B2.cell (p:=⟨b,off + 1,none⟩) hbb).trans hc1));go_ret;exact ⟨rfl,B2⟩
 ·have ne:(q2 != 0) = true:=by rw [hr2]; rfl
  have ne2:(q2 == 0) = false:=by simpa using ne
  clear hr2;go_enter Tryz.func42,Tryz.ntmps42;go_wp2_with (first | refine wpList_load_bk Zv 23 _ rfl _ _ rfl x _ Zm Tryz.underlying23 rfl Zk ?_ | (go_at_call 38; (with_reducible refine (C1 _).mono ?_); rintro e w1 ⟨rfl,hb1⟩; have B1:=b_cl hB0 Zl hb1) | (go_at_call 41; (with_reducible refine (C2 _ (h.below B1)).mono ?_); rintro e w2 ⟨rfl,hb2⟩; have B2:=b_cl B1 Zl hb2; have hc1:=(B2.cell (p:=⟨b,off + 1,none⟩) hbb).trans hc1));go_ret;exact ⟨rfl,B2⟩
end
def ten (m:Mt) (k:Nat):Int:=match k with
 | 0=>m.acc
 | 1=>m.lie
 | 2=>m.dawn
 | 3=>m.day
 | 4=>m.longers
 | 5=>m.reduces
 | 6=>m.sabbath
 | 7=>m.week
 | 8=>m.last
 | _=>m.labour
theorem may_ten (m:Mt):MayM m ↔ (0 <= m.now /\ m.now <= 40320) /\ ∀ k,k < 10 -> 0 <= ten m k /\ ten m k <= m.now:=by
 constructor
 ·intro h
  refine ⟨h.1,fun k hk=>?_⟩;obtain ⟨-,h0,h1,h2,h3,h4,h5,h6,h7,h8,h9⟩:=h;have:k = 0 ∨ k = 1 ∨ k = 2 ∨ k = 3 ∨ k = 4 ∨ k = 5 ∨ k = 6 ∨ k = 7 ∨ k = 8 ∨ k = 9:=by omega
  rcases this with rfl | rfl | rfl | rfl | rfl | rfl | rfl | rfl | rfl | rfl <;> assumption
 ·intro ⟨h,t⟩
  exact ⟨h,t 0 Zo,t 1 Zo,t 2 Zo,t 3 Zo,t 4 Zo,t 5 Zo,t 6 Zo,t 7 Zo,t 8 Zo,t 9 Zo⟩
def byT (now:Int) (half split brief:Bool) (y:Nat -> Int):Mt:=⟨now,y 0,half,y 1,y 2,y 3,y 4,split,y 5,y 6,brief,y 7,y 8,y 9⟩
theorem byT_ten (m:Mt):byT m.now m.half m.split m.brief (ten m) = m:=rfl
def tn (y:Nat -> Int):Array Value:=#[.int .i64 (y 0),.int .i64 (y 1),.int .i64 (y 2),.int .i64 (y 3),.int .i64 (y 4),.int .i64 (y 5),.int .i64 (y 6),.int .i64 (y 7),.int .i64 (y 8),.int .i64 (y 9)]
theorem tn_index (y:Nat -> Int) (w:World):∀ k,k < 10 -> (Instr.index 138 (.agg (tn y)) (.int .i64 (k:Nat))).run Tryz.prog w = .ok (.int .i64 (y k)) w:=by
 intro i hi;have:i = 0 ∨ i = 1 ∨ i = 2 ∨ i = 3 ∨ i = 4 ∨ i = 5 ∨ i = 6 ∨ i = 7 ∨ i = 8 ∨ i = 9:=by omega
 rcases this with rfl | rfl | rfl | rfl | rfl | rfl | rfl | rfl | rfl | rfl <;> (show _ = _; kernel_rfl)
set_option maxRecDepth 20000 in
set_option maxHeartbeats 1600000 in
open Classical in
theorem mcheck_any (m:Mt) (w:World) :
  Calls Tryz.prog 147 #[.agg (mt m)] w fun e w'=>e = .returned (.int .i64 (if MayM m then 0 else 1)) /\ Below w.heap.size w w':=by
 obtain ⟨v,hv⟩:∃ v:Int,(if MayM m then 0 else 1) = v:=⟨_,rfl⟩;rw [hv];have HV:=Zh (may_ten m);obtain ⟨a0,a1,a2,a3,a4,a5,a6,a7,a8,a9,a10,a11,a12,a13⟩:=m;have hV1:Hid (¬ MayM ⟨a0,a1,a2,a3,a4,a5,a6,a7,a8,a9,a10,a11,a12,a13⟩ -> v = 1):=Zh (fun h=>by rw [<- hv,if_neg h]);have hV0:Hid (MayM ⟨a0,a1,a2,a3,a4,a5,a6,a7,a8,a9,a10,a11,a12,a13⟩ -> v = 0):=Zh (fun h=>by rw [<- hv,if_pos h]);clear hv;obtain ⟨y,hy⟩:∃ y,ten ⟨a0,a1,a2,a3,a4,a5,a6,a7,a8,a9,a10,a11,a12,a13⟩ = y:=⟨_,rfl⟩;have hT:(#[.int .i64 a1,.int .i64 a3,.int .i64 a4,.int .i64 a5,.int .i64 a6,.int .i64 a8,.int .i64 a9,.int .i64 a11,.int .i64 a12,.int .i64 a13]:Array Value) = tn y:=by rw [<- hy]; rfl
 have HV:Hid (MayM ⟨a0,a1,a2,a3,a4,a5,a6,a7,a8,a9,a10,a11,a12,a13⟩ ↔ (0 <= a0 /\ a0 <= 40320) /\ ∀ k,k < 10 -> 0 <= y k /\ y k <= a0):=Zh (by have:=HV.out; rw [hy] at this; exact this);clear hy;generalize hMM:MayM ⟨a0,a1,a2,a3,a4,a5,a6,a7,a8,a9,a10,a11,a12,a13⟩ = MM at HV hV0 hV1;clear hMM;have B0:Bx (w.alloc (.cells (mt ⟨a0,a1,a2,a3,a4,a5,a6,a7,a8,a9,a10,a11,a12,a13⟩) 88)) w.heap.size 88 (mt ⟨a0,a1,a2,a3,a4,a5,a6,a7,a8,a9,a10,a11,a12,a13⟩):=Bx.new _ _ rfl;have p0:(w.alloc (.cells (mt ⟨a0,a1,a2,a3,a4,a5,a6,a7,a8,a9,a10,a11,a12,a13⟩) 88)).cell? ⟨w.heap.size,0,none⟩ = some (.int .i64 a0):=B0.cell rfl;have p1:(w.alloc (.cells (mt ⟨a0,a1,a2,a3,a4,a5,a6,a7,a8,a9,a10,a11,a12,a13⟩) 88)).cell? ⟨w.heap.size,1,none⟩ = some (.int .i64 a1):=B0.cell rfl;have p3:(w.alloc (.cells (mt ⟨a0,a1,a2,a3,a4,a5,a6,a7,a8,a9,a10,a11,a12,a13⟩) 88)).cell? ⟨w.heap.size,3,none⟩ = some (.int .i64 a3):=B0.cell rfl;have p4:(w.alloc (.cells (mt ⟨a0,a1,a2,a3,a4,a5,a6,a7,a8,a9,a10,a11,a12,a13⟩) 88)).cell? ⟨w.heap.size,4,none⟩ = some (.int .i64 a4):=B0.cell rfl;have p5:(w.alloc (.cells (mt ⟨a0,a1,a2,a3,a4,a5,a6,a7,a8,a9,a10,a11,a12,a13⟩) 88)).cell? ⟨w.heap.size,5,none⟩ = some (.int .i64 a5):=B0.cell rfl;have p6:(w.alloc (.cells (mt ⟨a0,a1,a2,a3,a4,a5,a6,a7,a8,a9,a10,a11,a12,a13⟩) 88)).cell? ⟨w.heap.size,6,none⟩ = some (.int .i64 a6):=B0.cell rfl;have p8:(w.alloc (.cells (mt ⟨a0,a1,a2,a3,a4,a5,a6,a7,a8,a9,a10,a11,a12,a13⟩) 88)).cell? ⟨w.heap.size,8,none⟩ = some (.int .i64 a8):=B0.cell rfl;have p9:(w.alloc (.cells (mt ⟨a0,a1,a2,a3,a4,a5,a6,a7,a8,a9,a10,a11,a12,a13⟩) 88)).cell? ⟨w.heap.size,9,none⟩ = some (.int .i64 a9):=B0.cell rfl;have p11:(w.alloc (.cells (mt ⟨a0,a1,a2,a3,a4,a5,a6,a7,a8,a9,a10,a11,a12,a13⟩) 88)).cell? ⟨w.heap.size,11,none⟩ = some (.int .i64 a11):=B0.cell rfl;have p12:(w.alloc (.cells (mt ⟨a0,a1,a2,a3,a4,a5,a6,a7,a8,a9,a10,a11,a12,a13⟩) 88)).cell? ⟨w.heap.size,12,none⟩ = some (.int .i64 a12):=B0.cell rfl;have p13:(w.alloc (.cells (mt ⟨a0,a1,a2,a3,a4,a5,a6,a7,a8,a9,a10,a11,a12,a13⟩) 88)).cell? ⟨w.heap.size,13,none⟩ = some (.int .i64 a13):=B0.cell rfl;by_cases h0:a0 < 0
 case pos =>
  have d0:decide (a0 < 0) = true:=decide_eq_true h0;obtain rfl:v = 1:=hV1.out (fun h=>by have:=HV.out.1 h; omega);clear h0 HV hV0 hV1 hT;go_enter Tryz.func147,Tryz.ntmps147;go_wp2;go_ret;exact ⟨rfl,(Below.refl _ _).alloc Zl _⟩
 have d0:decide (a0 < 0) = false:=decide_eq_false h0;by_cases h1:40320 < a0
 case pos =>
  have d1:decide (40320 < a0) = true:=decide_eq_true h1;obtain rfl:v = 1:=hV1.out (fun h=>by have:=HV.out.1 h; omega);clear h0 h1 HV hV0 hV1 hT;go_enter Tryz.func147,Tryz.ntmps147;go_wp2;go_ret;exact ⟨rfl,(Below.refl _ _).alloc Zl _⟩
 have d1:decide (40320 < a0) = false:=decide_eq_false h1;go_enter Tryz.func147,Tryz.ntmps147;go_wp2_with (refine wpList_build_as rfl 138 _ rfl (tn y) (by first | exact congrArg some hT | (rw [<- hT]; kernel_rfl)) ?_);clear p1 p3 p4 p5 p6 p8 p9 p11 p12 p13 B0 hT;go_loop [34] (fun i=>∃ k:Nat,k <= 10 /\ i = .int .i64 k /\ Hid (∀ j,j < k -> 0 <= y j /\ y j <= a0)) (fun i=>10 - (intOf i).toNat)
 case atStart=>exact ⟨0,Nat.zero_le _,rfl,Zh (fun j hj=>by omega)⟩
 case round =>
  obtain ⟨k,hk,rfl,H⟩:=hrel;by_cases hlt:k < 10
  case neg =>
   obtain rfl:k = 10:=by omega
   obtain rfl:v = 0:=hV0.out (HV.out.2 ⟨by omega,fun j hj=>H.out j hj⟩);go_wp2;go_ret;exact ⟨rfl,(Below.refl _ _).alloc Zl _⟩
  have hi0:=fun W=>tn_index y W k hlt
  obtain ⟨n,hn⟩:∃ n,y k = n:=⟨_,rfl⟩;rw [hn] at hi0;have hn:=Zh hn;by_cases lo:n < 0
  case pos =>
   have dl:decide (n < 0) = true:=decide_eq_true lo;obtain rfl:v = 1:=hV1.out (fun h=>by have:=(HV.out.1 h).2 k hlt; rw [hn.out] at this; omega);clear lo HV hV0 hV1;go_wp2;go_ret;exact ⟨rfl,(Below.refl _ _).alloc Zl _⟩
  have dl:decide (n < 0) = false:=decide_eq_false lo;by_cases hi:a0 < n
  case pos =>
   have dh:decide (a0 < n) = true:=decide_eq_true hi;obtain rfl:v = 1:=hV1.out (fun h=>by have:=(HV.out.1 h).2 k hlt; rw [hn.out] at this; omega);clear lo hi HV hV0 hV1;go_wp2;go_ret;exact ⟨rfl,(Below.refl _ _).alloc Zl _⟩
  have dh:decide (a0 < n) = false:=decide_eq_false hi;have HN:Hid (0 <= n /\ n <= a0):=Zh ⟨by omega,by omega⟩;clear lo hi;go_wp2;go_round
  case rel=>exact ⟨k + 1,by omega,by go_num,Zh (fun j hj=>by
    by_cases e:j = k
    ·subst e; rw [hn.out]; exact HN.out
    ·exact H.out j Zo)⟩
  case measure=>simp [intOf]; omega
set_option maxRecDepth 20000 in
open Classical in
theorem check13_any (x:Nat -> Int) (m:Mt) (w:World) :
  Calls Tryz.prog 142 #[.agg (bk x),.agg (mt m)] w fun e w'=>e = .returned (.int .i64 (if May x then (if MayM m then 0 else 1) else 14)) /\ Below w.heap.size w w':=by
 have C1:=fun W=>check7_any x W
 have C2:=fun W=>mcheck_any m W
 have RB:RdI ((w.alloc (.cells (bk x) 23)).alloc (.cells (mt m) 88)) w.heap.size 0 x:=(RdI.new x 23 rfl).alloc _;have BM:Bx ((w.alloc (.cells (bk x) 23)).alloc (.cells (mt m) 88)) (w.heap.size + 1) 88 (mt m):=Bx.new (W:=w.alloc (.cells (bk x) 23)) _ _ (by simp);by_cases hm:May x
 case neg =>
  rw [if_neg hm];simp only [if_neg hm] at C1;clear hm C2;go_enter Tryz.func142,Tryz.ntmps142;go_wp2_with (first | refine wpList_load_bk Zv 23 _ rfl _ _ rfl x _ (RB) Tryz.underlying23 rfl Zk ?_ | (go_at_call 38; (with_reducible refine (C1 _).mono ?_); rintro e w1 ⟨rfl,hb1⟩));go_ret;exact ⟨rfl,b_cl (b_al (b_al (Below.refl _ _) Zl _) Zl _) Zl hb1⟩
 rw [if_pos hm];simp only [if_pos hm] at C1;clear hm;generalize (if MayM m then (0:Int) else 1) = v at C2 ⊢;go_enter Tryz.func142,Tryz.ntmps142;go_wp2_with (first | refine wpList_load_bk Zv 23 _ rfl _ _ rfl x _ (RB) Tryz.underlying23 rfl Zk ?_ | (go_at_call 38; (with_reducible refine (C1 _).mono ?_); rintro e w1 ⟨rfl,hb1⟩; have BM1:=BM.below hb1) | refine wpList_load_box Zv 88 _ rfl (w.heap.size + 1) rfl 88 _ _ BM1 Tryz.underlying88 rfl Zk ?_ | (go_at_call 147; (with_reducible refine (C2 _).mono ?_); rintro e w2 ⟨rfl,hb2⟩));go_ret;exact ⟨rfl,b_cl (b_cl (b_al (b_al (Below.refl _ _) Zl _) Zl _) Zl hb1) Zl hb2⟩
def blk (x:Nat -> Int) (k:Int) (m:Mt) (y:Nat -> Int):Array Value:=#[.int .i64 (x 0),.int .i64 (x 1),.int .i64 (x 2),.int .i64 (x 3),.int .i64 (x 4),.int .i64 (x 5),.int .i64 (x 6),.int .i64 (x 7),.int .i64 (x 8),.int .i64 (x 9),.int .i64 (x 10),.int .i64 (x 11),.int .i64 (x 12),.int .i64 (x 13),.int .i64 (x 14),.int .i64 (x 15),.int .i64 (x 16),.int .i64 (x 17),.int .i64 (x 18),.int .i64 k,.int .i64 m.now,.int .i64 m.acc,.bool m.half,.int .i64 m.lie,.int .i64 m.dawn,.int .i64 m.day,.int .i64 m.longers,.bool m.split,.int .i64 m.reduces,.int .i64 m.sabbath,.bool m.brief,.int .i64 m.week,.int .i64 m.last,.int .i64 m.labour,.int .i64 (y 0),.int .i64 (y 1),.int .i64 (y 2),.int .i64 (y 3),.int .i64 (y 4),.int .i64 (y 5),.int .i64 (y 6),.int .i64 (y 7),.int .i64 (y 8),.int .i64 (y 9)]
theorem blk_size (x:Nat -> Int) (k:Int) (m:Mt) (y:Nat -> Int):(blk x k m y).size = 44:=rfl
theorem blk_one (x:Nat -> Int) (k:Int) (m:Mt) (y:Nat -> Int):(blk x k m y).all (·.oneCell') = true:=by kernel_rfl
theorem blk_fs (x:Nat -> Int) (k:Int) (m:Mt) (y:Nat -> Int) (a:Int):∀ c,c < 10 -> (blk x k m y).setIfInBounds (34 + c) (.int .i64 a) = blk x k m (fs y c a):=by
 intro c hc;have:c = 0 ∨ c = 1 ∨ c = 2 ∨ c = 3 ∨ c = 4 ∨ c = 5 ∨ c = 6 ∨ c = 7 ∨ c = 8 ∨ c = 9:=by omega
 rcases this with rfl | rfl | rfl | rfl | rfl | rfl | rfl | rfl | rfl | rfl <;> rfl
theorem blk_first (x:Nat -> Int) (k:Int) (m:Mt) (y:Nat -> Int):∀ c,c < 10 -> (blk x k m y)[34 + c]? = some (.int .i64 (y c)):=by
 intro c hc;have:c = 0 ∨ c = 1 ∨ c = 2 ∨ c = 3 ∨ c = 4 ∨ c = 5 ∨ c = 6 ∨ c = 7 ∨ c = 8 ∨ c = 9:=by omega
 rcases this with rfl | rfl | rfl | rfl | rfl | rfl | rfl | rfl | rfl | rfl <;> rfl
theorem blk_book (x:Nat -> Int) (k:Int) (m:Mt) (y:Nat -> Int):∀ i,i < 19 -> (blk x k m y)[0 + i]? = some (.int .i64 (x i)):=by
 intro i hi;have:i = 0 ∨ i = 1 ∨ i = 2 ∨ i = 3 ∨ i = 4 ∨ i = 5 ∨ i = 6 ∨ i = 7 ∨ i = 8 ∨ i = 9 ∨ i = 10 ∨ i = 11 ∨ i = 12 ∨ i = 13 ∨ i = 14 ∨ i = 15 ∨ i = 16 ∨ i = 17 ∨ i = 18:=by omega
 rcases this with rfl | rfl | rfl | rfl | rfl | rfl | rfl | rfl | rfl | rfl | rfl | rfl | rfl | rfl | rfl | rfl | rfl | rfl | rfl <;> rfl
theorem blk_eq {y z:Nat -> Int} (x:Nat -> Int) (k:Int) (m:Mt) (h:∀ c,c < 10 -> y c = z c):blk x k m y = blk x k m z:=by
 unfold blk;rw [h 0 Zo,h 1 Zo,h 2 Zo,h 3 Zo,h 4 Zo,h 5 Zo,h 6 Zo,h 7 Zo,h 8 Zo,h 9 Zo]
theorem tn_eq {y z:Nat -> Int} (h:∀ c,c < 10 -> y c = z c):tn y = tn z:=by
 unfold tn;rw [h 0 Zo,h 1 Zo,h 2 Zo,h 3 Zo,h 4 Zo,h 5 Zo,h 6 Zo,h 7 Zo,h 8 Zo,h 9 Zo]
theorem tn_one (y:Nat -> Int):(tn y).all (·.oneCell') = true:=by kernel_rfl
theorem tn_size (y:Nat -> Int):(tn y).size = 10:=rfl
abbrev Bk (W:World) (g:Nat) (x:Nat -> Int) (k:Int) (m:Mt) (y:Nat -> Int):Prop:=Bx W g 178 (blk x k m y)
theorem Bk.rdI {W:World} {g:Nat} {x:Nat -> Int} {k:Int} {m:Mt} {y:Nat -> Int} (h:Bk W g x k m y):RdI W g 0 x:=⟨h.lt,fun i hi=>h.cell (blk_book x k m y i hi)⟩
theorem Bk.meter {W:World} {g:Nat} {x:Nat -> Int} {k:Int} {m:Mt} {y:Nat -> Int} (h:Bk W g x k m y):W.rangeAt g 20 (mt m).toList:=fun j v hj=>by
 rw [cell_of_row W g (20 + j) _ _ (0,0) h]
 have hl:j < 14:=by
  have:=(List.getElem?_eq_some_iff.1 hj).1;simpa [mt_size] using this
 rw [Array.getElem?_toList] at hj;have:j = 0 ∨ j = 1 ∨ j = 2 ∨ j = 3 ∨ j = 4 ∨ j = 5 ∨ j = 6 ∨ j = 7 ∨ j = 8 ∨ j = 9 ∨ j = 10 ∨ j = 11 ∨ j = 12 ∨ j = 13:=by omega
 rcases this with rfl | rfl | rfl | rfl | rfl | rfl | rfl | rfl | rfl | rfl | rfl | rfl | rfl | rfl <;> exact hj
theorem Bk.firsts {W:World} {g:Nat} {x:Nat -> Int} {k:Int} {m:Mt} {y:Nat -> Int} (h:Bk W g x k m y):W.rangeAt g 34 (tn y).toList:=fun j v hj=>by
 rw [cell_of_row W g (34 + j) _ _ (0,0) h]
 have hl:j < 10:=by
  have:=(List.getElem?_eq_some_iff.1 hj).1;simpa [tn_size] using this
 rw [Array.getElem?_toList] at hj;have:j = 0 ∨ j = 1 ∨ j = 2 ∨ j = 3 ∨ j = 4 ∨ j = 5 ∨ j = 6 ∨ j = 7 ∨ j = 8 ∨ j = 9:=by omega
 rcases this with rfl | rfl | rfl | rfl | rfl | rfl | rfl | rfl | rfl | rfl <;> exact hj
abbrev BkTo (W:World) (g:Nat) (x:Nat -> Int) (k:Int) (m:Mt) (y:Nat -> Int) (W':World):Prop:=Chg W g 178 (blk x k m y) W'
theorem wrap14 (c:Int) (h0:-1000000 <= c) (h1:c <= 1000000):IntKind.i64.wrap c = c:=by
 simp [IntKind.wrap,IntKind.bits,IntKind.signed];omega
theorem brk_same (y:Nat -> Int) (c:Nat) (a t:Int):brk y c a t c = if a < t /\ y c < 0 then a else y c:=by unfold brk fs; split <;> simp
theorem brk_other (y:Nat -> Int) {c d:Nat} (a t:Int) (h:d ≠ c):brk y c a t d = y d:=by unfold brk fs; split <;> simp [h]
theorem results_box3 {P:Program} {fn:Func} {p q r:Tmp} {ty:TypeId} (h:fn.results = #[.cell p ty,.tmp q,.tmp r]) (tmps:Array Value) (w:World) (g:Nat) (t:TypeId) (cs:Array Value) (d:TypeDesc) (v v':Value)
  (hp:tmps.getD p undef = .pointer (some ⟨g,0,none⟩)) (hb:Bx w g t cs) (hq:tmps.getD q undef = v) (hr:tmps.getD r undef = v')
  (hu:P.underlying ty = some d) (hd:(match d with | .struct _ | .array _ _=>true | _=>false) = true) (hi:(P.info? ty).map (·.size) = some cs.size) :
  (results fn tmps).run P w = .ok (.tuple #[.agg cs,v,v']) w:=by
 have hp':tmps[p]?.getD undef = .pointer (some ⟨g,0,none⟩):=by simpa using hp
 have hq':tmps[q]?.getD undef = v:=by simpa using hq
 have hr':tmps[r]?.getD undef = v':=by simpa using hr
 simp [results,h,hp',hq',hr',asAddr,run_loadVar_row w g t ty cs (0,0) d hb hu hd hi]
theorem results_box22 {P:Program} {fn:Func} {p q r:Tmp} {ty tz:TypeId} (h:fn.results = #[.cell p ty,.cell q tz,.tmp r]) (tmps:Array Value) (w:World) (g g':Nat) (t t':TypeId) (cs ds:Array Value) (d d':TypeDesc) (v:Value)
  (hp:tmps.getD p undef = .pointer (some ⟨g,0,none⟩)) (hb:Bx w g t cs) (hq:tmps.getD q undef = .pointer (some ⟨g',0,none⟩)) (hb':Bx w g' t' ds) (hr:tmps.getD r undef = v)
  (hu:P.underlying ty = some d) (hd:(match d with | .struct _ | .array _ _=>true | _=>false) = true) (hi:(P.info? ty).map (·.size) = some cs.size)
  (hu':P.underlying tz = some d') (hd':(match d' with | .struct _ | .array _ _=>true | _=>false) = true) (hi':(P.info? tz).map (·.size) = some ds.size) :
  (results fn tmps).run P w = .ok (.tuple #[.agg cs,.agg ds,v]) w:=by
 have hp':tmps[p]?.getD undef = .pointer (some ⟨g,0,none⟩):=by simpa using hp
 have hq':tmps[q]?.getD undef = .pointer (some ⟨g',0,none⟩):=by simpa using hq
 have hr':tmps[r]?.getD undef = v:=by simpa using hr
 simp [results,h,hp',hq',hr',asAddr,run_loadVar_row w g t ty cs (0,0) d hb hu hd hi,run_loadVar_row w g' t' tz ds (0,0) d' hb' hu' hd' hi']
theorem results_boxes {P:Program} {fn:Func} {p q:Tmp} {ty tz:TypeId} (h:fn.results = #[.cell p ty,.cell q tz]) (tmps:Array Value) (w:World) (g g':Nat) (t t':TypeId) (cs ds:Array Value) (d d':TypeDesc)
  (hp:tmps.getD p undef = .pointer (some ⟨g,0,none⟩)) (hb:Bx w g t cs) (hq:tmps.getD q undef = .pointer (some ⟨g',0,none⟩)) (hb':Bx w g' t' ds)
  (hu:P.underlying ty = some d) (hd:(match d with | .struct _ | .array _ _=>true | _=>false) = true) (hi:(P.info? ty).map (·.size) = some cs.size)
  (hu':P.underlying tz = some d') (hd':(match d' with | .struct _ | .array _ _=>true | _=>false) = true) (hi':(P.info? tz).map (·.size) = some ds.size) :
  (results fn tmps).run P w = .ok (.tuple #[.agg cs,.agg ds]) w:=by
 have hp':tmps[p]?.getD undef = .pointer (some ⟨g,0,none⟩):=by simpa using hp
 have hq':tmps[q]?.getD undef = .pointer (some ⟨g',0,none⟩):=by simpa using hq
 simp [results,h,hp',hq',asAddr,run_loadVar_row w g t ty cs (0,0) d hb hu hd hi,run_loadVar_row w g' t' tz ds (0,0) d' hb' hu' hd' hi']
section
variable {P:Program}
theorem exec_load_mid {r:Operand -> Value} {o:Oper} {ty:TypeId} {y:Operand} (b off:Nat) (cs:Array Value) (d:TypeDesc) (w:World) (ho:o.op = .load ty y) (hx:r y = .pointer (some ⟨b,off,none⟩)) (hr:w.rangeAt b off cs.toList)
  (hu:P.underlying ty = some d) (hd:d.isRow = true) (hi:(P.info? ty).map (·.size) = some cs.size):(execOp r o).run P w = .ok (.value (.agg cs)) w:=by
 have:=run_loadAt_mid (P:=P) w b off ty cs.toList d hr hu hd (by simpa using hi);rw [Array.toArray_toList] at this;unfold execOp;simp only [ho,hx,this,Sem.run_bind,Result.andThen_ok];rfl
end
section
variable {P:Program}
theorem run_storeVar_part (W:World) (g k:Nat) (t ty:TypeId) (cs vs:Array Value) (h:Bx W g t cs) (hk:k + vs.size <= cs.size) (hi:(P.info? ty).map (·.size) = some vs.size) (h1:vs.all (·.oneCell') = true) :
  (storeVar ty ⟨g,k,none⟩ (.agg vs)).run P W = .ok () (W.setRow g (cs.toList.take k ++ vs.toList ++ cs.toList.drop (k + vs.size)).toArray):=by
 have:=run_storeCells_at (P:=P) g k t vs.toList 0 cs W h (by simpa using hk) (fun x hx=>by
  rw [Array.all_eq_true] at h1;obtain ⟨i,hi,rfl⟩:=Array.mem_iff_getElem.1 (Array.mem_toList_iff.1 hx)
  exact h1 i hi)
 have hc:(Value.agg vs).cells = vs:=rfl
 cases hq:P.info? ty with
 | none=>simp [hq] at hi
 | some i =>
  have hs:i.size = vs.size:=by simpa [hq] using hi
  simp only [Nat.add_zero,Array.length_toList] at this;simp [storeVar,sizeOf,typeInfo,hq,hc,hs,this]
theorem wpList_store_part {ops:Array Oper} {rest:List Oper} {o:Oper} {a:Act} {w:World} {Q:Exit -> Act -> World -> Prop} (hgd:Region.wanted o (yielded ops a.tmps) = true) (ty:TypeId) (x y:Operand) (ho:o.op = .store ty x y)
  (g k:Nat) (vs:Array Value) (hx:a.eval x = .pointer (some ⟨g,k,none⟩)) (hy:a.eval y = .agg vs) (h1:vs.all (·.oneCell') = true) (t:TypeId) (cs:Array Value) (hb:Bx w g t cs) (hk:k + vs.size <= cs.size) (hi:(P.info? ty).map (·.size) = some vs.size)
  (h:∀ W',Upd w g t (cs.toList.take k ++ vs.toList ++ cs.toList.drop (k + vs.size)).toArray W' -> wpList P ops Q rest (a.put o.dst undef) W'):wpList P ops Q (o :: rest) a w :=
 wpList_step fun K hK=>by
  rw [if_pos hgd];unfold Oper.wp execOp;simp only [ho,hx,hy,Instr.storeAt,Instr.sureAddr,Sem.run_bind,Sem.run_pure,Result.andThen_ok,run_storeVar_part w g k t ty cs vs hb hk hi h1];exact hK _ _ (h _ (Upd.of_setRow _ hb))
end
theorem blk_meter (x:Nat -> Int) (k:Int) (m m':Mt) (y:Nat -> Int):((blk x k m y).toList.take 20 ++ (mt m').toList ++ (blk x k m y).toList.drop (20 + (mt m').size)).toArray = blk x k m' y:=rfl
def swp (x:Nat -> Int) (m:Mt) (p:Int):Array Value:=#[.int .i64 (x 0),.int .i64 (x 1),.int .i64 (x 2),.int .i64 (x 3),.int .i64 (x 4),.int .i64 (x 5),.int .i64 (x 6),.int .i64 (x 7),.int .i64 (x 8),.int .i64 (x 9),.int .i64 (x 10),.int .i64 (x 11),.int .i64 (x 12),.int .i64 (x 13),.int .i64 (x 14),.int .i64 (x 15),.int .i64 (x 16),.int .i64 (x 17),.int .i64 (x 18),.int .i64 m.now,.int .i64 m.acc,.bool m.half,.int .i64 m.lie,.int .i64 m.dawn,.int .i64 m.day,.int .i64 m.longers,.bool m.split,.int .i64 m.reduces,.int .i64 m.sabbath,.bool m.brief,.int .i64 m.week,.int .i64 m.last,.int .i64 m.labour,.int .i64 p]
theorem swp_size (x:Nat -> Int) (m:Mt) (p:Int):(swp x m p).size = 34:=rfl
theorem swp_one (x:Nat -> Int) (m:Mt) (p:Int):(swp x m p).all (·.oneCell') = true:=by kernel_rfl
theorem swp_book (x:Nat -> Int) (m:Mt) (p:Int):∀ i,i < 19 -> (swp x m p)[0 + i]? = some (.int .i64 (x i)):=by
 intro i hi;have:i = 0 ∨ i = 1 ∨ i = 2 ∨ i = 3 ∨ i = 4 ∨ i = 5 ∨ i = 6 ∨ i = 7 ∨ i = 8 ∨ i = 9 ∨ i = 10 ∨ i = 11 ∨ i = 12 ∨ i = 13 ∨ i = 14 ∨ i = 15 ∨ i = 16 ∨ i = 17 ∨ i = 18:=by omega
 rcases this with rfl | rfl | rfl | rfl | rfl | rfl | rfl | rfl | rfl | rfl | rfl | rfl | rfl | rfl | rfl | rfl | rfl | rfl | rfl <;> rfl
theorem swp_pause (x:Nat -> Int) (m:Mt) (p q:Int):(swp x m p).setIfInBounds 33 (.int .i64 q) = swp x m q:=rfl
theorem swp_meter (x:Nat -> Int) (m m':Mt) (p:Int):((swp x m p).toList.take 19 ++ (mt m').toList ++ (swp x m p).toList.drop (19 + (mt m').size)).toArray = swp x m' p:=rfl
abbrev Sw (W:World) (g:Nat) (x:Nat -> Int) (m:Mt) (p:Int):Prop:=Bx W g 90 (swp x m p)
theorem Sw.rdI {W:World} {g:Nat} {x:Nat -> Int} {m:Mt} {p:Int} (h:Sw W g x m p):RdI W g 0 x:=⟨h.lt,fun i hi=>h.cell (swp_book x m p i hi)⟩
theorem Sw.meter {W:World} {g:Nat} {x:Nat -> Int} {m:Mt} {p:Int} (h:Sw W g x m p):W.rangeAt g 19 (mt m).toList:=fun j v hj=>by
 rw [cell_of_row W g (19 + j) _ _ (0,0) h]
 have hl:j < 14:=by
  have:=(List.getElem?_eq_some_iff.1 hj).1;simpa [mt_size] using this
 rw [Array.getElem?_toList] at hj;have:j = 0 ∨ j = 1 ∨ j = 2 ∨ j = 3 ∨ j = 4 ∨ j = 5 ∨ j = 6 ∨ j = 7 ∨ j = 8 ∨ j = 9 ∨ j = 10 ∨ j = 11 ∨ j = 12 ∨ j = 13:=by omega
 rcases this with rfl | rfl | rfl | rfl | rfl | rfl | rfl | rfl | rfl | rfl | rfl | rfl | rfl | rfl <;> exact hj
theorem wpList_take_mid {P:Program} {ops:Array Oper} {rest:List Oper} {o:Oper} {a:Act} {w:World} {Q:Exit -> Act -> World -> Prop} (hgd:Region.wanted o (yielded ops a.tmps) = true) (ty:TypeId) (x:Operand) (ho:o.op = .load ty x)
  (g off:Nat) (cs:Array Value) (d:TypeDesc) (hx:a.eval x = .pointer (some ⟨g,off,none⟩)) (hr:w.rangeAt g off cs.toList)
  (hu:P.underlying ty = some d) (hd:d.isRow = true) (hi:(P.info? ty).map (·.size) = some cs.size)
  (h:wpList P ops Q rest (a.put o.dst (.agg cs)) w):wpList P ops Q (o :: rest) a w :=
 wpList_step fun K hK=>by
  rw [if_pos hgd];unfold Oper.wp;rw [exec_load_mid g off cs d w ho hx hr hu hd hi];exact hK _ _ h
theorem Chg.keep {W W1 W2:World} {g b:Nat} {t s:TypeId} {cs ds:Array Value} (c:Chg W g t cs W1) (u:Upd W1 b s ds W2) (hb:W.heap.size <= b) (hg:g < W.heap.size):Chg W g t cs W2 :=
 ⟨by rw [u.size]; exact c.size,u.bx c.box Zo,fun k hk hl=>(u.other k Zo).trans (c.other k hk hl),fun n hn hl=>(c.bel n hn hl).trans (u.bel n Zo)⟩
abbrev SwTo (W:World) (g:Nat) (x:Nat -> Int) (m:Mt) (p:Int) (W':World):Prop:=Chg W g 90 (swp x m p) W'
set_option maxRecDepth 20000 in
set_option maxHeartbeats 2000000 in
theorem from16_any (g:Nat) (x:Nat -> Int) (m:Mt) (p:Int) (c:Nat) (t:Int) (w:World) (hb:Sw w g x m p) (hx:May x) (hL:1 <= x 18) (hc:c < 10) (h0:0 <= t) (h1:t <= 40320) :
  Calls Tryz.prog 46 #[.pointer (some ⟨g,0,none⟩),.int .i64 (c:Nat),.int .i64 t] w fun e w'=>e = .returned (.int .i64 (sinceV x m p c t)) /\ w = w':=by
 have r18:=(may_time hx 18 Zo).2;have hm:=mod_le h0 hL;have f18:w.cell? ⟨g,18,none⟩ = some (.int .i64 (x 18)):=hb.cell rfl;have f33:w.cell? ⟨g,33,none⟩ = some (.int .i64 p):=hb.cell rfl;have f23:w.cell? ⟨g,23,none⟩ = some (.int .i64 m.dawn):=hb.cell rfl;have f28:w.cell? ⟨g,28,none⟩ = some (.int .i64 m.sabbath):=hb.cell rfl;have hr0:=Int.emod_nonneg t (show x 18 ≠ 0 by omega);have hr1:=Int.emod_lt_of_pos t (show 0 < x 18 by omega);have e1:t.tmod (x 18) = t % x 18:=Int.tmod_eq_emod_of_nonneg h0;unfold sinceV sinceD;generalize x 18 = L at *;generalize m.dawn = d at *;generalize m.sabbath = s at *;clear hb hx;generalize hr:t % L = r at *;have ne:(L == 0) = false:=by simp; omega
 have ne2:¬ L = 0:=by omega
 obtain ⟨q,hq⟩:∃ q,t - r = q:=⟨_,rfl⟩;rw [hq] at hm ⊢;have HE:=Zh e1;have this:c = 0 ∨ c = 1 ∨ c = 2 ∨ c = 3 ∨ c = 4 ∨ c = 5 ∨ c = 6 ∨ c = 7 ∨ c = 8 ∨ c = 9:=by omega
 clear hc
 rcases this with rfl | rfl | rfl | rfl | rfl | rfl | rfl | rfl | rfl | rfl
 ·have hw:=wrap14 q Zo Zo
  go_enter Tryz.func46,Tryz.ntmps46;go_wp2;go_ret;exact ⟨by simp_all,rfl⟩
 ·have hw:=wrap14 q Zo Zo
  go_enter Tryz.func46,Tryz.ntmps46;go_wp2;go_ret;exact ⟨by simp_all,rfl⟩
 ·have hw:=wrap14 q Zo Zo
  go_enter Tryz.func46,Tryz.ntmps46;go_wp2;go_ret;exact ⟨by simp_all,rfl⟩
 ·have hw:=wrap14 q Zo Zo
  go_enter Tryz.func46,Tryz.ntmps46;go_wp2;go_ret;exact ⟨by simp_all,rfl⟩
 ·have hw:=wrap14 q Zo Zo
  by_cases hz:q <= L
  ·have hmx:max 0 (q - L) = 0:=by omega
   go_enter Tryz.func46,Tryz.ntmps46;go_wp2;go_ret;exact ⟨by simp_all,rfl⟩
  ·have hmx:max 0 (q - L) = q - L:=by omega
   go_enter Tryz.func46,Tryz.ntmps46;go_wp2;go_ret;exact ⟨by simp_all,rfl⟩
 ·have hw:=wrap14 q Zo Zo
  go_enter Tryz.func46,Tryz.ntmps46;go_wp2;go_ret;exact ⟨by simp_all,rfl⟩
 ·have hw:=wrap14 q Zo Zo
  go_enter Tryz.func46,Tryz.ntmps46;go_wp2;go_ret;exact ⟨by simp_all,rfl⟩
 ·have hw:=wrap14 q Zo Zo
  go_enter Tryz.func46,Tryz.ntmps46;go_wp2;go_ret;exact ⟨by simp_all,rfl⟩
 ·have hw:=wrap14 q Zo Zo
  go_enter Tryz.func46,Tryz.ntmps46;go_wp2;go_ret;exact ⟨by simp_all,rfl⟩
 ·have hw:=wrap14 q Zo Zo
  go_enter Tryz.func46,Tryz.ntmps46;go_wp2;go_ret;exact ⟨by simp_all,rfl⟩
theorem row_type {base sz n:Nat} {e:TypeId} {w:World} {v:Value} {xs:List Value} (h:w.ownsRow base e sz v n xs) {q:Nat} (hq:v.ownBlock = some q):∃ cs z,w.heap[q]? = some (.cells cs e z):=by
 rcases h.2 with ⟨h2,_⟩ | ⟨g,cap,cur,hv,hg,hh,r⟩
 ·rw [h2] at hq; cases hq
 ·rw [hv] at hq
  injection hq with hq
  have hq':g = q:=hq;subst hq';exact ⟨_,_,hh⟩
theorem row_block {base sz n:Nat} {e:TypeId} {w w':World} {v:Value} {xs:List Value} (h:w.ownsRow base e sz v n xs) (hq:∀ k,v.ownBlock = some k -> w'.heap[k]? = w.heap[k]?):w'.ownsRow base e sz v n xs:=by
 refine ⟨h.1,?_⟩
 rcases h.2 with h2 | ⟨g,cap,cur,hv,hg,hh,r⟩
 ·exact Or.inl h2
 ·refine Or.inr ⟨g,cap,cur,hv,hg,?_,r⟩
  rw [hq g (by rw [hv]; rfl)];exact hh
theorem OwnF.upd {base g:Nat} {t:TypeId} {cs:Array Value} {w w':World} {v:Value} {l:List Rc} (h:OwnF base w v l) (u:Upd w g t cs w') (hg:g < base):OwnF base w' v l :=
 row_block h fun k hk=>u.other k (by have:=(World.ownsRow.lt h k hk).1; omega)
theorem OwnF.chg {base g:Nat} {t:TypeId} {cs:Array Value} {w w':World} {v:Value} {l:List Rc} (h:OwnF base w v l) (u:Chg w g t cs w') (hg:g < base):OwnF base w' v l :=
 row_block h fun k hk=>u.other k (by have:=(World.ownsRow.lt h k hk).1; omega) (World.ownsRow.lt h k hk).2
theorem wp_store_fld {P:Program} {o:Oper} {a:Act} {w:World} {K:Act -> World -> Prop} {Q:Exit -> Act -> World -> Prop} (ty:TypeId) (x y:Operand) (ho:o.op = .store ty x y)
  (g k:Nat) (v:Value) (hx:a.eval x = .pointer (some ⟨g,k,none⟩)) (hy:a.eval y = v) (h1:v.oneCell' = true) (t:TypeId) (cs:Array Value) (hb:Bx w g t cs) (hk:k < cs.size) (hi:(P.info? ty).map (·.size) = some 1)
  (h:∀ W',Upd w g t (cs.setIfInBounds k v) W' -> K (a.put o.dst undef) W'):o.wp P a w K Q:=by
 unfold Oper.wp execOp;simp only [ho,hx,hy,Instr.storeAt,Instr.sureAddr,Sem.run_bind,Sem.run_pure,Result.andThen_ok,run_storeVar_fld w g k t ty cs v hb hk hi h1];exact h _ (Upd.of_setRow _ hb)
theorem and_low (n:Int):bits .and .i64 n 1 = n % 2:=by
 have h16:(BitVec.ofInt 64 1).toNat = 2 ^ 1 - 1:=by decide
 have key:(BitVec.ofInt 64 n &&& BitVec.ofInt 64 1).toNat = (n % ((2 ^ 64:Nat):Int)).toNat % 2 ^ 1:=by
  rw [BitVec.toNat_and,BitVec.toNat_ofInt,h16,Nat.and_two_pow_sub_one_eq_mod]
 show IntKind.i64.wrap ((BitVec.ofInt 64 n &&& BitVec.ofInt 64 1).toNat:Nat) = n % 2
 rw [key,IntKind.wrap_i64];omega
theorem bit_and (s:Int) (k:Nat):(bits .and .i64 (s / 2 ^ k) 1 == 1) = bitV s k:=by
 unfold bitV;rw [and_low]
theorem in_no (s c:Int) (w:World) (h:¬ isC c) :
  Calls Tryz.prog 44 #[.int .i64 s,.int .i64 c] w fun e w'=>e = .returned (.bool false) /\ w = w':=by
 have CI:=fun W=>is_any c W
 rw [decide_eq_false h] at CI;clear h;go_enter Tryz.func44,Tryz.ntmps44;go_wp2_with (go_at_call 84; (with_reducible refine (CI _).mono ?_); rintro e w1 ⟨rfl,rfl⟩);go_ret;exact ⟨rfl,rfl⟩
theorem in_yes (s:Int) (k:Nat) (w:World) (hk:k < 16) :
  Calls Tryz.prog 44 #[.int .i64 s,.int .i64 (k:Nat)] w fun e w'=>e = .returned (.bool (bitV s k)) /\ w = w':=by
 have CI:=fun W=>is_any (k:Int) W
 rw [decide_eq_true (isC_nat hk)] at CI;have k0:(0:Int) <= (k:Int):=by omega
 have k1:(k:Int) < 16:=by omega
 have e1:=bit_and s k;generalize bitV s k = g at e1;go_enter Tryz.func44,Tryz.ntmps44;go_wp2_with (go_at_call 84; (with_reducible refine (CI _).mono ?_); rintro e w1 ⟨rfl,rfl⟩);go_ret;exact ⟨by simp_all,rfl⟩
theorem in_any (s c:Int) (w:World) :
  Calls Tryz.prog 44 #[.int .i64 s,.int .i64 c] w fun e w'=>e = .returned (.bool (inV s c)) /\ w = w':=by
 by_cases h:isC c
 ·obtain ⟨k,hk,rfl⟩:=isC_of h
  have e:inV s (k:Int) = bitV s k:=by unfold inV; rw [decide_eq_true h]; simp
  rw [e];exact in_yes s k w hk
 ·have e:inV s c = false:=by unfold inV; rw [decide_eq_false h]; rfl
  rw [e];exact in_no s c w h
set_option maxRecDepth 100000 in
set_option maxHeartbeats 4000000 in
theorem all15_any (s:Int) (w:World) :
  Calls Tryz.prog 86 #[.int .i64 s] w fun e w'=>∃ v,e = .returned v /\ OwnN w.heap.size w' v (allN s 16) /\ Below w.heap.size w w':=by
 obtain ⟨i1,hj,hy0,hy1,hy2⟩:=info_parts info_int;go_enter Tryz.func86,Tryz.ntmps86;go_wp2
 go_loopw [3,5] (fun v i wr=>∃ (k n:Nat) (A':Option Addr) (c':Nat),k <= 16 /\ i = .int .i64 k /\ v = .slice A' n c' /\ Hid ((allN s k).length = n) /\ n <= k /\
   Hid (OwnN w.heap.size wr (.slice A' n c') (allN s k)) /\ Below w.heap.size w wr) (fun _ i _=>16 - (intOf i).toNat)
 case atStart=>exact ⟨0,0,none,0,Nat.zero_le _,rfl,rfl,Zh rfl,Nat.le_refl _,Zh (OwnN.nil _ _),Below.refl _ _⟩
 case round =>
  obtain ⟨k,n,A',c',hk,rfl,rfl,HON,hnk,hown,hb⟩:=hrel;obtain ⟨w2,rfl⟩:∃ w2:World,w2 = wr:=⟨_,rfl⟩;have hsz:=hb.size;by_cases hlt:k < 16
  ·have CI:=fun W=>in_yes s k W hlt
   cases hbit:bitV s k with
   | true =>
    rw [hbit] at CI;have KM:=Zh (all_yes hbit);have HL5:=Zh (show (allN s k ++ [(k:Int)]).length = n + 1 by rw [List.length_append,HON.out]; rfl);have hnb:(allN s k).length <= 16:=by have:=HON.out; omega
    clear hbit
    go_wp2_with (first
     | (go_at_call 44; (with_reducible refine (CI _).mono ?_); rintro e w3 ⟨rfl,rfl⟩)
     | (at_builtin; refine wpList_append_own _ rfl _ _ 28 rfl w.heap.size 3 i1 (.int .i64 0) 1 8 Tryz.underlying28 hj hy0 hy1 hy2 rfl Zd _ _ _ rfl (OwnN.alloc hown.out _) ⟨w2.heap.size,0,none⟩ 1 1 [.int .i64 k] rfl rfl (int_news rfl) int_cells (by unfold maxLen; omega) Zo (by have:=hb.size; simp; omega) ?_; intro v5 w5 hown5 hgrow5 _; have HS:=Zh (OwnN.snoc hown5); have HB5:=Zh ((hb.alloc hb.size (.cells #[.int .i64 k] 3)).grown hgrow5 (by have:=hb.size; simp; omega) (fun q hq=>(World.ownsRow.lt hown.out q hq).1)); clear hown5 hgrow5))
    obtain ⟨A5,c5,rfl,_⟩:=HS.out.read;go_wp2;go_roundw
    case rel=>exact ⟨k + 1,n + 1,A5,c5,by omega,by go_num,by rw [HL5.out],Zh (by rw [KM.out]; exact HL5.out),by omega,Zh (by rw [KM.out]; have:=HS.out; rw [HL5.out] at this; exact this),HB5.out⟩
    case measure=>simp [intOf]; omega
   | false =>
    rw [hbit] at CI;have KM:=Zh (all_no hbit);clear hbit;go_wp2_with (go_at_call 44; (with_reducible refine (CI _).mono ?_); rintro e w3 ⟨rfl,rfl⟩);go_roundw
    case rel=>exact ⟨k + 1,n,A',c',by omega,by go_num,rfl,Zh (by rw [KM.out]; exact HON.out),by omega,Zh (by rw [KM.out]; exact hown.out),hb⟩
    case measure=>simp [intOf]; omega
  ·obtain rfl:k = 16:=by omega
   go_wp2;go_ret;exact ⟨_,rfl,hown.out,hb⟩
end Go.Proofs.YtiamnbddbmgffaaGreatDoor
