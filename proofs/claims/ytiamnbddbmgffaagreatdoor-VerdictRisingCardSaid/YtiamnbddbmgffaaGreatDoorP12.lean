/- Texts of the proofs of VerdictAudits, VerdictAll, VerdictRising, pressed: WordPrint, WordTold, ClauseMath, ClauseLine, ClauseRow, Build, BookRow, BookLeaf, BookOrd, BookLim. Conditions: as each theorem says. -/
import Derived.Test.YtiamnbddbmgffaaGreatDoorRows
import Derived.Test.YtiamnbddbmgffaaGreatDoorP11
import Derived.Test.YtiamnbddbmgffaaGreatDoorNums
import Derived.Test.YtiamnbddbmgffaaGreatDoorP10
import Derived.Lib.ItoaLen
import Derived.BigRegion
import Derived.Great.BuildSlice
namespace Go.Proofs.YtiamnbddbmgffaaGreatDoor
open Go.RowKit
set_option linter.unusedVariables false
theorem ba_ext {a b:ByteArray} (h:a.data.toList = b.data.toList):a = b:=ByteArray.ext (Array.toList_inj.1 h)
theorem ret_s {a b:ByteArray} (h:a = b):Ending.returned (.string a) = .returned (.string b):=by rw [h]
theorem grow_below {w w':World} {k:Nat} {os:Array Obj} (h:w' = Go.Sort.grow (w.drewN k) os):Below w.heap.size w w':=by
 subst h;exact ⟨rfl,rfl,rfl,by simp,fun j hj=>(Go.Sort.heap_grow_old (w.drewN k) os (show j < (w.drewN k).heap.size from hj)).trans rfl⟩
theorem print_tab (n:Int) (w:World) (ht:Lib.TabIs Tryz.prog w "internal/strconv.uint64pow10" .u64 Lib.pow10Tab) (h0:-9223372036854775808 <= n) (h1:n <= 9223372036854775807) :
  Calls Tryz.prog 108 #[.int .i64 n] w fun e w'=>e = .returned (.string (itoaB n)) /\ Below w.heap.size w w':=by
 have K:Calls Tryz.prog 135 #[.int .i64 n] w fun e w'=>e = .returned (.string (itoaB n)) /\ Below w.heap.size w w' :=
  (itoa_any n h0 h1 w ht).mono fun e w' ⟨he,k,os,hw⟩=>⟨he,grow_below hw⟩
 clear ht;go_enter Tryz.func108,Tryz.ntmps108;go_wp2_with (go_at_call 135; (with_reducible refine K.mono ?_); rintro e w1 ⟨rfl,hb1⟩);go_ret;exact ⟨rfl,hb1⟩
theorem dec_more {u q p r:Nat} {sb:ByteArray} (H:Lib.decDigits u = Lib.decDigits q ++ sb.data.toList) (hq:q = 10 * p + r) (hr:r < 10) (hp:p ≠ 0) :
  Lib.decDigits u = Lib.decDigits p ++ (⟨#[UInt8.ofNat ((48:Int) + (r:Int)).toNat]⟩ ++ sb).data.toList:=by
 have e1:q / 10 = p:=by omega
 have e2:q % 10 = r:=by omega
 have e3:((48:Int) + (r:Int)).toNat = 48 + r:=by omega
 rw [H,dec_big Zo,e1,e2,e3];simp [ByteArray.data_append]
theorem dec_last {u q r:Nat} {sb:ByteArray} (H:Lib.decDigits u = Lib.decDigits q ++ sb.data.toList) (hq:q = r) (hr:r < 10) :
  (⟨#[UInt8.ofNat ((48:Int) + (r:Int)).toNat]⟩ ++ sb).data.toList = Lib.decDigits u:=by
 have e3:((48:Int) + (r:Int)).toNat = 48 + r:=by omega
 rw [H,hq,dec_small hr,e3];simp [ByteArray.data_append]
theorem refprint_pos (u:Nat) (w:World) (h1:u <= 9223372036854775807) :
  Calls Tryz.prog 110 #[.int .i64 ((u:Int))] w fun e w'=>e = .returned (.string (itoaB ((u:Int)))) /\ Below w.heap.size w w':=by
 have HU:=Zh h1
 have n0:¬ (u:Int) < 0:=by omega
 go_enter Tryz.func110,Tryz.ntmps110
 go_wp2
 go_loopw [3,4,5] (fun s m i wr=>∃ (k q:Nat) (sb:ByteArray),s = .string sb /\ m = .int .i64 ((q:Int)) /\ i = .int .i64 k /\ q <= u /\ q * 10 ^ k <= u /\ sb.size <= k /\ (k = 0 ∨ q ≠ 0) /\ Below w.heap.size w wr /\ Hid (Lib.decDigits u = Lib.decDigits q ++ sb.data.toList)) (fun _ _ i _=>20 - (intOf i).toNat)
 case atStart=>exact ⟨0,u,⟨#[]⟩,rfl,rfl,rfl,Nat.le_refl _,by omega,by decide,.inl rfl,Below.refl _ _,Zh (by simp)⟩
 case round =>
  obtain ⟨k,q,sb,rfl,rfl,rfl,hqu,hpow,hsb,hk0,hb,H⟩:=hrel
  have hk:k < 19:=by
   rcases Nat.lt_or_ge k 19 with h | h
   ·exact h
   ·exfalso
    have hp:=Nat.pow_le_pow_right (n:=10) Zd h;have e:(10:Nat) ^ 19 = 10000000000000000000:=by decide
    have hq1:1 <= q:=by omega
    have:=Nat.mul_le_mul hq1 hp;omega
  obtain ⟨p,r,hq,hr⟩:∃ p r,q = 10 * p + r /\ r < 10:=⟨q / 10,q % 10,by omega,by omega⟩
  have HP:=Zh (show p * 10 ^ (k + 1) <= u by
   refine Nat.le_trans ?_ hpow;rw [Nat.pow_succ,Nat.mul_comm (10 ^ k) 10,<- Nat.mul_assoc]
   exact Nat.mul_le_mul_right _ Zo)
  clear hpow
  have e1:((q:Int)).tmod 10 = (r:Int):=by
   rw [Int.tmod_eq_emod_of_nonneg Zo]; omega
  have e2:((q:Int)).tdiv 10 = (p:Int):=by
   rw [Int.tdiv_eq_ediv_of_nonneg Zo]; omega
  have e3:(q:Int) % 10 = (r:Int):=by omega
  have e4:(q:Int) / 10 = (p:Int):=by omega
  have hq2:q <= 9223372036854775808:=by omega
  have hp2:p <= 922337203685477580:=by omega
  have K:=fun T=>convB1 (wr.alloc (.cells #[.int .u8 (48 + (r:Int))] T)) wr.heap.size (48 + (r:Int)) (by simp)
  have HL:=Zh (fun h:q = r=>dec_last H.out h hr)
  have HM:=Zh (fun (h:q = 10 * p + r) (h2:p ≠ 0)=>dec_more H.out h hr h2)
  obtain ⟨c,hc⟩:∃ c,UInt8.ofNat ((48:Int) + (r:Int)).toNat = c:=⟨_,rfl⟩
  rw [hc] at HL HM
  simp only [hc] at K
  clear hc
  have hsz:(⟨#[c]⟩ ++ sb:ByteArray).size = sb.size + 1:=by rw [ByteArray.size_append]; show 1 + sb.size = _; omega
  have HQ:=Zh hq
  clear hq
  by_cases hp:p = 0
  ·have HE:=Zh (HL.out (by have:=HQ.out; omega))
   subst hp
   go_wp2
   go_ret
   exact ⟨ret_s (ba_ext (by rw [itoaB_list,itoa_pos Zo,HE.out]; rfl)),hb.alloc hb.size _⟩
  ·have HE:=Zh (HM.out HQ.out hp)
   have p0:((p:Int) == 0) = false:=by simp; omega
   go_wp2
   go_roundw
   case rel=>exact ⟨k + 1,p,⟨#[c]⟩ ++ sb,rfl,rfl,by go_num,by omega,HP.out,by omega,.inr hp,hb.alloc hb.size _,HE⟩
   case measure=>simp [intOf]; omega
theorem refprint_neg (n:Int) (w:World) (h0:-9223372036854775808 <= n) (h1:n < 0) :
  Calls Tryz.prog 110 #[.int .i64 n] w fun e w'=>e = .returned (.string (itoaB n)) /\ Below w.heap.size w w':=by
 obtain ⟨u,hu⟩:∃ u:Nat,n.natAbs = u:=⟨_,rfl⟩;have hu1:u <= 9223372036854775808:=by omega
 have HU:=Zh hu;have hnu:n = -(u:Int):=by omega
 have HN:=Zh hnu;clear hu hnu;go_enter Tryz.func110,Tryz.ntmps110;go_wp2;go_loopw [3,4,5] (fun s mv i wr=>∃ (k q:Nat) (m:Int) (sb:ByteArray),s = .string sb /\ mv = .int .i64 m /\ i = .int .i64 k /\ Hid (m = -(q:Int)) /\ q <= u /\ q * 10 ^ k <= u /\ sb.size <= k /\ q ≠ 0 /\ Below w.heap.size w wr /\ Hid (Lib.decDigits u = Lib.decDigits q ++ sb.data.toList)) (fun _ _ i _=>20 - (intOf i).toNat)
 case atStart=>exact ⟨0,u,n,⟨#[]⟩,rfl,rfl,rfl,HN,Nat.le_refl _,by omega,by decide,(by have:=HN.out; omega),Below.refl _ _,Zh (by simp)⟩
 case round =>
  obtain ⟨k,q,m,sb,rfl,rfl,rfl,HMQ,hqu,hpow,hsb,hk0,hb,H⟩:=hrel
  have hk:k < 19:=by
   rcases Nat.lt_or_ge k 19 with h | h
   ·exact h
   ·exfalso
    have hp:=Nat.pow_le_pow_right (n:=10) Zd h;have e:(10:Nat) ^ 19 = 10000000000000000000:=by decide
    have hq1:1 <= q:=by omega
    have:=Nat.mul_le_mul hq1 hp;omega
  obtain ⟨p,r,hq,hr⟩:∃ p r,q = 10 * p + r /\ r < 10:=⟨q / 10,q % 10,by omega,by omega⟩
  have HP:=Zh (show p * 10 ^ (k + 1) <= u by
   refine Nat.le_trans ?_ hpow;rw [Nat.pow_succ,Nat.mul_comm (10 ^ k) 10,<- Nat.mul_assoc]
   exact Nat.mul_le_mul_right _ Zo)
  clear hpow;have hm:=HMQ.out;obtain ⟨d,e1,hd⟩:∃ d,m.tmod 10 = d /\ d = -(r:Int):=⟨_,rfl,by rw [hm,Int.neg_tmod,Int.tmod_eq_emod_of_nonneg Zo]; omega⟩;obtain ⟨m2,e2,hm2⟩:∃ m2,m.tdiv 10 = m2 /\ m2 = -(p:Int):=⟨_,rfl,by rw [hm,Int.neg_tdiv,Int.tdiv_eq_ediv_of_nonneg Zo]; omega⟩;have b0:-9223372036854775808 <= m:=by omega
  have b1:m <= 0:=by omega
  have b2:-9 <= d:=by omega
  have b3:d <= 0:=by omega
  have b4:-922337203685477580 <= m2:=by omega
  have b5:m2 <= 0:=by omega
  have HQ:=Zh hq;have HM2:=Zh hm2;have HD:=Zh hd;clear hq hm hm2 hd;have K:=fun T=>convB1 (wr.alloc (.cells #[.int .u8 (48 + (r:Int))] T)) wr.heap.size (48 + (r:Int)) (by simp)
  have HL:=Zh (fun h:q = r=>dec_last H.out h hr);have HM:=Zh (fun (h:q = 10 * p + r) (h2:p ≠ 0)=>dec_more H.out h hr h2);obtain ⟨c,hc⟩:∃ c,UInt8.ofNat ((48:Int) + (r:Int)).toNat = c:=⟨_,rfl⟩;rw [hc] at HL HM;simp only [hc] at K;have K0:=fun (h:d = (r:Int)) T=>convB1 (wr.alloc (.cells #[.int .u8 (48 + d)] T)) wr.heap.size (48 + d) (by simp)
  have K1:d = (r:Int) -> ∀ T,(convert 66 9 (.slice (some ⟨wr.heap.size,0,none⟩) 1 1)).run Tryz.prog (wr.alloc (.cells #[.int .u8 (48 + d)] T)) = .ok (.string ⟨#[c]⟩) (wr.alloc (.cells #[.int .u8 (48 + d)] T)):=fun h T=>by
   have:=K0 h T;rw [h,hc] at this;rw [h];exact this
  clear hc K0;have hsz:(⟨#[c]⟩ ++ sb:ByteArray).size = sb.size + 1:=by rw [ByteArray.size_append]; show 1 + sb.size = _; omega
  have hsz2:(⟨#[45]⟩ ++ (⟨#[c]⟩ ++ sb):ByteArray).size = sb.size + 2:=by rw [ByteArray.size_append,hsz]; show 1 + (sb.size + 1) = _; omega
  by_cases hr0:r = 0
  ·have d0:0 <= d:=by have:=HD.out; omega
   have K2:=K1 (by have:=HD.out; omega);clear K K1;have hp:p ≠ 0:=by have:=HQ.out; omega
   have p0:(m2 == 0) = false:=by have:=HM2.out; simp; omega
   have HE:=Zh (HM.out HQ.out hp);go_wp2;go_roundw
   case rel=>exact ⟨k + 1,p,m2,⟨#[c]⟩ ++ sb,rfl,rfl,by go_num,HM2,by have:=HQ.out; omega,HP.out,by omega,hp,hb.alloc hb.size _,HE⟩
   case measure=>simp [intOf]; omega
  ·have d0:d < 0:=by have:=HD.out; omega
   clear K1;have dn:-d = (r:Int):=by have:=HD.out; omega
   by_cases hp:p = 0
   ·have m0:m2 = 0:=by have:=HM2.out; omega
    have HE:=Zh (HL.out (by have:=HQ.out; omega));subst hp;subst m0;go_wp2;go_ret;exact ⟨ret_s (ba_ext (by rw [itoaB_list,itoa_neg h1,HU.out,<- HE.out]; rfl)),hb.alloc hb.size _⟩
   ·have p0:(m2 == 0) = false:=by have:=HM2.out; simp; omega
    have HE:=Zh (HM.out HQ.out hp);go_wp2;go_roundw
    case rel=>exact ⟨k + 1,p,m2,⟨#[c]⟩ ++ sb,rfl,rfl,by go_num,HM2,by have:=HQ.out; omega,HP.out,by omega,hp,hb.alloc hb.size _,HE⟩
    case measure=>simp [intOf]; omega
theorem refprint_any (n:Int) (w:World) (h0:-9223372036854775808 <= n) (h1:n <= 9223372036854775807) :
  Calls Tryz.prog 110 #[.int .i64 n] w fun e w'=>e = .returned (.string (itoaB n)) /\ Below w.heap.size w w':=by
 rcases Int.lt_or_le n 0 with h | h
 ·exact refprint_neg n w h0 h
 ·obtain ⟨u,rfl⟩:∃ u:Nat,n = u:=⟨n.toNat,by omega⟩
  exact refprint_pos u w Zo
theorem itoaB_size {n:Int} (h0:-9223372036854775808 <= n) (h1:n <= 9223372036854775807):(itoaB n).size <= 21:=by
 have:=Lib.itoa_length_le n h0 h1;rw [<- itoaB_list,size_list] at this;exact this
set_option maxHeartbeats 1000000 in
theorem told_tab (x y:Int) (w:World) (ht:Lib.TabIs Tryz.prog w "internal/strconv.uint64pow10" .u64 Lib.pow10Tab) (hx0:-9223372036854775808 <= x) (hx1:x <= 9223372036854775807) (hy0:-9223372036854775808 <= y) (hy1:y <= 9223372036854775807) :
  Calls Tryz.prog 70 #[.agg #[.int .i64 x,.int .i64 y]] w fun e w'=>e = .returned (.string (toldB x y)) /\ Below w.heap.size w w':=by
 have C1:=fun (p:BelowOf (w.alloc (.cells #[.int .i64 x,.int .i64 y] 121)))=>print_tab x p.world (var_below (var_below ht ((Below.refl _ _).alloc Zl _)) p.ok) hx0 hx1
 have C2:=fun (p:BelowOf (w.alloc (.cells #[.int .i64 x,.int .i64 y] 121)))=>print_tab y p.world (var_below (var_below ht ((Below.refl _ _).alloc Zl _)) p.ok) hy0 hy1
 have HT:=Zh (show toldB x y = (itoaB x ++ ⟨#[45]⟩) ++ itoaB y from rfl);have zx:=itoaB_size hx0 hx1;have zy:=itoaB_size hy0 hy1;generalize itoaB x = a at C1 HT zx;generalize itoaB y = b at C2 HT zy;have q1:∀ p:BelowOf (w.alloc (.cells #[.int .i64 x,.int .i64 y] 121)),p.world.cell? ⟨w.heap.size,0,none⟩ = some (.int .i64 x):=fun p=>p.cell (by simp)
 have q2:∀ p:BelowOf (w.alloc (.cells #[.int .i64 x,.int .i64 y] 121)),p.world.cell? ⟨w.heap.size,1,none⟩ = some (.int .i64 y):=fun p=>p.cell (by simp)
 have r1:∀ W:World,(Op.stringOp .add a ⟨#[45]⟩).run Tryz.prog W = .ok (.string (a ++ ⟨#[45]⟩)) W:=fun W=>run_string_add_sum W _ _ (by show a.size + 1 <= _; omega)
 have r2:∀ W:World,(Op.stringOp .add (a ++ ⟨#[45]⟩) b).run Tryz.prog W = .ok (.string ((a ++ ⟨#[45]⟩) ++ b)) W:=fun W=>run_string_add_sum W _ _ (by rw [ByteArray.size_append]; show a.size + 1 + b.size <= _; omega)
 go_enter Tryz.func70,Tryz.ntmps70;go_wp2;refine wp_region_bel Zk Zk ?_
 repeat (go_big_quiet_step (first
  | (go_at_call 108; (with_reducible exact Calls.bel_of (C1 _)))
  | (go_at_call 108; (with_reducible exact Calls.bel_of (C2 _)))))
 refine wpQuiet_nil ?_;refine bel_all fun wq hbq=>?_
 go_wp2;go_ret;exact ⟨by rw [HT.out]; rfl,((Below.refl _ _).alloc Zl _).trans (hbq.mono (by simp))⟩
set_option maxHeartbeats 1000000 in
theorem reftold_any (x y:Int) (w:World) (hx0:-9223372036854775808 <= x) (hx1:x <= 9223372036854775807) (hy0:-9223372036854775808 <= y) (hy1:y <= 9223372036854775807) :
  Calls Tryz.prog 74 #[.agg #[.int .i64 x,.int .i64 y]] w fun e w'=>e = .returned (.string (toldB x y)) /\ Below w.heap.size w w':=by
 have C1:=fun (p:BelowOf (w.alloc (.cells #[.int .i64 x,.int .i64 y] 121)))=>refprint_any x p.world hx0 hx1
 have C2:=fun (p:BelowOf (w.alloc (.cells #[.int .i64 x,.int .i64 y] 121)))=>refprint_any y p.world hy0 hy1
 have HT:=Zh (show toldB x y = (itoaB x ++ ⟨#[45]⟩) ++ itoaB y from rfl);have zx:=itoaB_size hx0 hx1;have zy:=itoaB_size hy0 hy1;generalize itoaB x = a at C1 HT zx;generalize itoaB y = b at C2 HT zy;have q1:∀ p:BelowOf (w.alloc (.cells #[.int .i64 x,.int .i64 y] 121)),p.world.cell? ⟨w.heap.size,0,none⟩ = some (.int .i64 x):=fun p=>p.cell (by simp)
 have q2:∀ p:BelowOf (w.alloc (.cells #[.int .i64 x,.int .i64 y] 121)),p.world.cell? ⟨w.heap.size,1,none⟩ = some (.int .i64 y):=fun p=>p.cell (by simp)
 have r1:∀ W:World,(Op.stringOp .add a ⟨#[45]⟩).run Tryz.prog W = .ok (.string (a ++ ⟨#[45]⟩)) W:=fun W=>run_string_add_sum W _ _ (by show a.size + 1 <= _; omega)
 have r2:∀ W:World,(Op.stringOp .add (a ++ ⟨#[45]⟩) b).run Tryz.prog W = .ok (.string ((a ++ ⟨#[45]⟩) ++ b)) W:=fun W=>run_string_add_sum W _ _ (by rw [ByteArray.size_append]; show a.size + 1 + b.size <= _; omega)
 go_enter Tryz.func74,Tryz.ntmps74;go_wp2;refine wp_region_bel Zk Zk ?_
 repeat (go_big_quiet_step (first
  | (go_at_call 110; (with_reducible exact Calls.bel_of (C1 _)))
  | (go_at_call 110; (with_reducible exact Calls.bel_of (C2 _)))))
 refine wpQuiet_nil ?_;refine bel_all fun wq hbq=>?_
 go_wp2;go_ret;exact ⟨by rw [HT.out]; rfl,((Below.refl _ _).alloc Zl _).trans (hbq.mono (by simp))⟩
def findB (c x y:Int):ByteArray:=((((artW ++ artV c) ++ ⟨#[32]⟩) ++ nameV c) ++ ⟨#[32]⟩) ++ toldB x y
def err15 (c x y:Int):Int:=if ¬ isC c then 13 else if y <= x then 3 else if x < 0 ∨ 40320 < y then 4 else 0
def line15V (c x y:Int):ByteArray × Int:=if err15 c x y = 0 then (findB c x y,0) else (⟨#[]⟩,err15 c x y)
theorem err15_none {c x y:Int} (h:¬ isC c):err15 c x y = 13:=if_pos h
theorem err15_span {c x y:Int} (h:isC c) (h2:y <= x):err15 c x y = 3:=by unfold err15; rw [if_neg (fun n=>n h),if_pos h2]
theorem err15_range {c x y:Int} (h:isC c) (h2:¬ y <= x) (h3:x < 0 ∨ 40320 < y):err15 c x y = 4:=by unfold err15; rw [if_neg (fun n=>n h),if_neg h2,if_pos h3]
theorem err15_ok {c x y:Int} (h:isC c) (h2:¬ y <= x) (h3:¬ (x < 0 ∨ 40320 < y)):err15 c x y = 0:=by unfold err15; rw [if_neg (fun n=>n h),if_neg h2,if_neg h3]
theorem err15_zero {c x y:Int} (h:err15 c x y = 0):isC c /\ 0 <= x /\ x < y /\ y <= 40320:=by
 unfold err15 at h;split at h
 ·cases h
 ·rename_i h1
  split at h
  ·cases h
  ·split at h
   ·cases h
   ·exact ⟨Classical.not_not.1 h1,by omega,by omega,by omega⟩
theorem line15_good {c x y:Int} (h:err15 c x y = 0):line15V c x y = (findB c x y,0):=if_pos h
theorem line15_wrong {c x y e:Int} (h:err15 c x y = e) (he:e ≠ 0):line15V c x y = (⟨#[]⟩,e):=by subst h; exact if_neg he
theorem find_join (c x y:Int):joinB [artW ++ artV c,nameV c,toldB x y] = (findB c x y).data.toList:=by
 unfold findB;simp [joinB,ByteArray.data_append]
theorem find_size {c x y:Int} (hx0:-9223372036854775808 <= x) (hx1:x <= 9223372036854775807) (hy0:-9223372036854775808 <= y) (hy1:y <= 9223372036854775807):(artV c).size <= 4 /\ (nameV c).size <= 9 /\ (findB c x y).size <= 70:=by
 have h1:=itoaB_size hx0 hx1;have h2:=itoaB_size hy0 hy1
 have ha:(artV c).size <= 4:=by
  unfold artV;split
  ·rename_i h
   obtain ⟨k,hk,rfl⟩:=isC_of h;exact ar_size k hk
  ·exact Nat.zero_le _
 have hn:(nameV c).size <= 9:=by
  unfold nameV;split
  ·rename_i h
   obtain ⟨k,hk,rfl⟩:=isC_of h;exact (nm_size k hk).2
  ·exact Nat.zero_le _
 refine ⟨ha,hn,?_⟩;unfold findB toldB;simp only [ByteArray.size_append];have e1:(⟨#[32]⟩:ByteArray).size = 1:=rfl;have e2:(⟨#[45]⟩:ByteArray).size = 1:=rfl;have e3:artW.size = 4:=rfl;omega
structure Laid15 (w:World):Prop where
 titles:Titles w
 tab:Lib.TabIs Tryz.prog w "internal/strconv.uint64pow10" .u64 Lib.pow10Tab
theorem Laid15.below {w w':World} (h:Laid15 w) (hb:Below w.heap.size w w'):Laid15 w':=⟨h.titles.below hb,var_below h.tab hb⟩
theorem tab_below {w w':World} (h:Lib.TabIs Tryz.prog w "internal/strconv.uint64pow10" .u64 Lib.pow10Tab) (hb:Below w.heap.size w w'):Lib.TabIs Tryz.prog w' "internal/strconv.uint64pow10" .u64 Lib.pow10Tab:=var_below h hb
theorem three_read {W:World} {n:Nat} {a b c:ByteArray} (h0:W.cell? ⟨n,0,none⟩ = some (.string a)) (h1:W.cell? ⟨n,1,none⟩ = some (.string b)) (h2:W.cell? ⟨n,2,none⟩ = some (.string c)):RdT W (some ⟨n,0,none⟩) [a,b,c]:=fun _=>⟨n,0,rfl,World.block_lt_of_cell? W ⟨n,0,none⟩ h0,fun k hk=>by
 have:k = 0 ∨ k = 1 ∨ k = 2:=by simp at hk; omega
 rcases this with rfl | rfl | rfl
 ·exact h0
 ·exact h1
 ·exact h2⟩
theorem line15_none (c x y:Int) (w:World) (hl:Laid15 w) (h:¬ isC c) :
  Calls Tryz.prog 32 #[.agg #[.int .i64 c,.int .i64 x,.int .i64 y]] w fun e w'=>e = .returned (.tuple #[.string ⟨#[]⟩,.int .i64 13]) /\ Below w.heap.size w w':=by
 have CT:=fun W (h:Titles W)=>title_any c W h
 rw [none_no h] at CT;have HT:=Zh hl.titles;generalize nameV c = a at CT;generalize artV c = b at CT;clear h;clear hl;go_enter Tryz.func32,Tryz.ntmps32;go_wp2_with (go_at_call 68; (with_reducible refine (CT _ (HT.out.below Za)).mono ?_); rintro e w1 ⟨rfl,hb1⟩; obtain ⟨hc1,hf1⟩:=bcell hb1; have hz1:=hb1.size; (try simp at hz1); have hlt1:w.heap.size < w1.heap.size:=Zo);go_ret2;refine ⟨rfl,?_⟩;exact Za
theorem line15_span (c x y:Int) (w:World) (hl:Laid15 w) (h:isC c) (h2:y <= x) :
  Calls Tryz.prog 32 #[.agg #[.int .i64 c,.int .i64 x,.int .i64 y]] w fun e w'=>e = .returned (.tuple #[.string ⟨#[]⟩,.int .i64 3]) /\ Below w.heap.size w w':=by
 have CT:=fun W (h:Titles W)=>title_any c W h
 rw [none_yes h] at CT;have HT:=Zh hl.titles;generalize nameV c = a at CT;generalize artV c = b at CT;clear h;clear hl;go_enter Tryz.func32,Tryz.ntmps32;go_wp2_with (go_at_call 68; (with_reducible refine (CT _ (HT.out.below Za)).mono ?_); rintro e w1 ⟨rfl,hb1⟩; obtain ⟨hc1,hf1⟩:=bcell hb1; have hz1:=hb1.size; (try simp at hz1); have hlt1:w.heap.size < w1.heap.size:=Zo);go_ret2;refine ⟨rfl,?_⟩;exact Za
theorem line15_low (c x y:Int) (w:World) (hl:Laid15 w) (h:isC c) (h2:¬ y <= x) (h3:x < 0) :
  Calls Tryz.prog 32 #[.agg #[.int .i64 c,.int .i64 x,.int .i64 y]] w fun e w'=>e = .returned (.tuple #[.string ⟨#[]⟩,.int .i64 4]) /\ Below w.heap.size w w':=by
 have CT:=fun W (h:Titles W)=>title_any c W h
 rw [none_yes h] at CT;have HT:=Zh hl.titles;generalize nameV c = a at CT;generalize artV c = b at CT;clear h;clear hl;go_enter Tryz.func32,Tryz.ntmps32;go_wp2_with (go_at_call 68; (with_reducible refine (CT _ (HT.out.below Za)).mono ?_); rintro e w1 ⟨rfl,hb1⟩; obtain ⟨hc1,hf1⟩:=bcell hb1; have hz1:=hb1.size; (try simp at hz1); have hlt1:w.heap.size < w1.heap.size:=Zo);go_ret2;refine ⟨rfl,?_⟩;exact Za
theorem line15_high (c x y:Int) (w:World) (hl:Laid15 w) (h:isC c) (h2:¬ y <= x) (h3:¬ x < 0) (h4:40320 < y) :
  Calls Tryz.prog 32 #[.agg #[.int .i64 c,.int .i64 x,.int .i64 y]] w fun e w'=>e = .returned (.tuple #[.string ⟨#[]⟩,.int .i64 4]) /\ Below w.heap.size w w':=by
 have CT:=fun W (h:Titles W)=>title_any c W h
 rw [none_yes h] at CT;have HT:=Zh hl.titles;generalize nameV c = a at CT;generalize artV c = b at CT;clear h;clear hl;go_enter Tryz.func32,Tryz.ntmps32;go_wp2_with (go_at_call 68; (with_reducible refine (CT _ (HT.out.below Za)).mono ?_); rintro e w1 ⟨rfl,hb1⟩; obtain ⟨hc1,hf1⟩:=bcell hb1; have hz1:=hb1.size; (try simp at hz1); have hlt1:w.heap.size < w1.heap.size:=Zo);go_ret2;refine ⟨rfl,?_⟩;exact Za
set_option maxHeartbeats 1000000 in
theorem line15_ok (c x y:Int) (w:World) (hl:Laid15 w) (h:isC c) (h2:¬ y <= x) (h3:¬ x < 0) (h4:¬ 40320 < y) :
  Calls Tryz.prog 32 #[.agg #[.int .i64 c,.int .i64 x,.int .i64 y]] w fun e w'=>e = .returned (.tuple #[.string (findB c x y),.int .i64 0]) /\ Below w.heap.size w w':=by
 have CT:=fun W (h:Titles W)=>title_any c W h
 rw [none_yes h] at CT;have HT:=Zh hl.titles;have HTAB:=Zh hl.tab;have CD:=fun (W:World) (ht:Lib.TabIs Tryz.prog W "internal/strconv.uint64pow10" .u64 Lib.pow10Tab)=>told_tab x y W ht Zo Zo Zo Zo
 have hz:=find_size (c:=c) (x:=x) (y:=y) Zo Zo Zo Zo
 have CJ:∀ (W:World) (N:Nat),W.cell? ⟨N,0,none⟩ = some (.string (artW ++ artV c)) -> W.cell? ⟨N,1,none⟩ = some (.string (nameV c)) -> W.cell? ⟨N,2,none⟩ = some (.string (toldB x y)) ->
   Calls Tryz.prog 69 #[.slice (some ⟨N,0,none⟩) 3 3] W fun e w'=>e = .returned (.string (findB c x y)) /\ Below W.heap.size W w':=fun W N h0 h1 h2=>by
  have hzz:=hz.2.2;rw [<- size_list,<- find_join] at hzz;have:=join_any (some ⟨N,0,none⟩) 3 3 _ W rfl (three_read h0 h1 h2) Zo Zo;rw [find_join] at this;exact this
 have hza:=hz.1;clear hz;have r1:∀ W:World,(Op.stringOp .add artW (artV c)).run Tryz.prog W = .ok (.string (artW ++ artV c)) W:=fun W=>run_string_add_sum W _ _ (by show 4 + _ <= _; omega)
 have r2:∀ W:World,(Op.stringOp .add ⟨#[97,114,116,46]⟩ (artV c)).run Tryz.prog W = .ok (.string (artW ++ artV c)) W:=r1;clear r1;generalize artW ++ artV c = d at CJ r2;generalize nameV c = a at CT CJ;generalize artV c = b at CT r2 hza;generalize toldB x y = p at CD CJ;generalize findB c x y = z at CJ;clear hl h;go_enter Tryz.func32,Tryz.ntmps32;go_wp2_with (go_at_call 68; (with_reducible refine (CT _ (HT.out.below Za)).mono ?_); rintro e w1 ⟨rfl,hb1⟩; obtain ⟨hc1,hf1⟩:=bcell hb1; have hz1:=hb1.size; (try simp at hz1); have hlt1:w.heap.size < w1.heap.size:=Zo);have k0:(w1.alloc (.cells #[.string a,.string b] 115)).cell? ⟨w1.heap.size,0,none⟩ = some (.string a):=by simp
 have k1:(w1.alloc (.cells #[.string a,.string b] 115)).cell? ⟨w1.heap.size,1,none⟩ = some (.string b):=by simp
 have k2:(w1.alloc (.cells #[.string a,.string b] 115)).cell? ⟨w.heap.size,1,none⟩ = some (.int .i64 x):=c_al _ (by rw [hc1 _ _ (by simp)]; simp);have k3:(w1.alloc (.cells #[.string a,.string b] 115)).cell? ⟨w.heap.size,2,none⟩ = some (.int .i64 y):=c_al _ (by rw [hc1 _ _ (by simp)]; simp);have HW:Hid (Below w.heap.size w (w1.alloc (.cells #[.string a,.string b] 115))):=Zh Za;have HB:Hid (Lib.TabIs Tryz.prog (w1.alloc (.cells #[.string a,.string b] 115)) "internal/strconv.uint64pow10" .u64 Lib.pow10Tab):=Zh (var_below HTAB.out HW.out);refine wp_region_noPanic ?_;refine wp_region_held_drew (S:=fun w'=>Below (w1.alloc (.cells #[.string a,.string b] 115)).heap.size (w1.alloc (.cells #[.string a,.string b] 115)) w') Zk ?_ (fun hHeld=>?_)
 ·exact b_dr (Below.refl _ _)
 refine Zt 0 (some 31) (hy:=by intro w' hSw; (try dsimp only at hSw); have c0:=c_cl k0 hSw; have c1:=c_cl k1 hSw; have c2:=c_cl k2 hSw; have c3:=c_cl k3 hSw; go_simp; try (with_reducible rfl)) ?_;(try simp only [Zs]);refine Zt 1 (some 32) (hy:=by intro w' hSw; (try dsimp only at hSw); have c0:=c_cl k0 hSw; have c1:=c_cl k1 hSw; have c2:=c_cl k2 hSw; have c3:=c_cl k3 hSw; go_simp; try (with_reducible rfl)) ?_;(try simp only [Zs]);refine Zt 2 (some 33) (hy:=by intro w' hSw; (try dsimp only at hSw); have c0:=c_cl k0 hSw; have c1:=c_cl k1 hSw; have c2:=c_cl k2 hSw; have c3:=c_cl k3 hSw; go_simp; try (with_reducible rfl)) ?_;(try simp only [Zs]);refine Zt 3 (some 34) (hy:=by intro w' hSw; (try dsimp only at hSw); have c0:=c_cl k0 hSw; have c1:=c_cl k1 hSw; have c2:=c_cl k2 hSw; have c3:=c_cl k3 hSw; go_simp; try (with_reducible rfl)) ?_;(try simp only [Zs]);refine Zt 4 (some 35) (hy:=by intro w' hSw; (try dsimp only at hSw); have c0:=c_cl k0 hSw; have c1:=c_cl k1 hSw; have c2:=c_cl k2 hSw; have c3:=c_cl k3 hSw; go_simp; try (with_reducible rfl)) ?_;(try simp only [Zs]);refine Zt 5 (some 36) (hy:=by intro w' hSw; (try dsimp only at hSw); have c0:=c_cl k0 hSw; have c1:=c_cl k1 hSw; have c2:=c_cl k2 hSw; have c3:=c_cl k3 hSw; go_simp; try (with_reducible rfl)) ?_;(try simp only [Zs]);refine Zt 6 (some 37) (hy:=by intro w' hSw; (try dsimp only at hSw); have c0:=c_cl k0 hSw; have c1:=c_cl k1 hSw; have c2:=c_cl k2 hSw; have c3:=c_cl k3 hSw; go_simp; try (with_reducible rfl)) ?_;(try simp only [Zs]);refine Zt 7 (some 38) (hy:=by intro w' hSw; (try dsimp only at hSw); have c0:=c_cl k0 hSw; have c1:=c_cl k1 hSw; have c2:=c_cl k2 hSw; have c3:=c_cl k3 hSw; go_simp; try (with_reducible rfl)) ?_;(try simp only [Zs]);refine Zt 8 (some 39) (hy:=by intro w' hSw; (try dsimp only at hSw); have c0:=c_cl k0 hSw; have c1:=c_cl k1 hSw; have c2:=c_cl k2 hSw; have c3:=c_cl k3 hSw; go_simp; try (with_reducible rfl)) ?_;(try simp only [Zs]);refine Zt 9 (some 40) (hy:=by intro w' hSw; (try dsimp only at hSw); have c0:=c_cl k0 hSw; have c1:=c_cl k1 hSw; have c2:=c_cl k2 hSw; have c3:=c_cl k3 hSw; go_simp; try (with_reducible rfl)) ?_;(try simp only [Zs]);refine Zr 10 (some 41) fun K hK=>?_
 go_simp;(go_at_call 70; (with_reducible refine (CD _ (tab_below HB.out hHeld)).mono ?_); rintro e w2 ⟨rfl,hb2⟩)
 try go_wp2_with fail
 refine hK.out _ _ (by (repeat (first | assumption | exact Below.refl _ _ | (refine b_al ?_ Zl _) | refine b_dn ?_ | refine b_dr ?_ | (refine b_cl ?_ Zl Zm)))) (fun hHeld=>?_);clear hK K;(try simp only [Zs]);refine Zr 11 (some 42) fun K hK=>?_
 go_simp
 try go_wp2_with fail
 refine hK.out _ _ (by (repeat (first | assumption | exact Below.refl _ _ | (refine b_al ?_ Zl _) | refine b_dn ?_ | refine b_dr ?_ | (refine b_cl ?_ Zl Zm)))) (fun hHeld=>?_);clear hK K;(try simp only [Zs]);refine Zr 12 (some 43) fun K hK=>?_
 go_simp;(go_at_call 69; (with_reducible refine (CJ _ _ ?_ ?_ ?_).mono ?_); (focus simp); (focus simp); (focus simp); rintro e w3 ⟨rfl,hb3⟩)
 try go_wp2_with fail
 refine hK.out _ _ (by (repeat (first | assumption | exact Below.refl _ _ | (refine b_al ?_ Zl _) | refine b_dn ?_ | refine b_dr ?_ | (refine b_cl ?_ Zl Zm)))) (fun hHeld=>?_);clear hK K;(try simp only [Zs]);refine Zr 13 (some 2) fun K hK=>?_
 go_simp
 try go_wp2_with fail
 refine hK.out _ _ (by (repeat (first | assumption | exact Below.refl _ _ | (refine b_al ?_ Zl _) | refine b_dn ?_ | refine b_dr ?_ | (refine b_cl ?_ Zl Zm)))) (fun hHeld=>?_);clear hK K;(try simp only [Zs]);refine Zr 14 (some 3) fun K hK=>?_
 go_simp
 try go_wp2_with fail
 refine hK.out _ _ (by (repeat (first | assumption | exact Below.refl _ _ | (refine b_al ?_ Zl _) | refine b_dn ?_ | refine b_dr ?_ | (refine b_cl ?_ Zl Zm)))) (fun hHeld=>?_);clear hK K;(try simp only [Zs]);refine wpAnyH_done Zk ?_ _;refine NoPanic.normal ?_;go_wp2;go_ret2;exact ⟨rfl,b_tr HW.out Za⟩
theorem line15_any (c x y:Int) (w:World) (hl:Laid15 w) :
  Calls Tryz.prog 32 #[.agg #[.int .i64 c,.int .i64 x,.int .i64 y]] w fun e w'=>e = .returned (.tuple #[.string (line15V c x y).1,.int .i64 (line15V c x y).2]) /\ Below w.heap.size w w':=by
 by_cases h:isC c
 ·by_cases h2:y <= x
  ·rw [line15_wrong (err15_span h h2) Zd]; exact line15_span c x y w hl h h2
  ·by_cases h3:x < 0
   ·rw [line15_wrong (err15_range h h2 (.inl h3)) Zd]; exact line15_low c x y w hl h h2 h3
   ·by_cases h4:40320 < y
    ·rw [line15_wrong (err15_range h h2 (.inr h4)) Zd]; exact line15_high c x y w hl h h2 h3 h4
    ·rw [line15_good (err15_ok h h2 (fun q=>q.elim h3 h4))]; exact line15_ok c x y w hl h h2 h3 h4
 ·rw [line15_wrong (err15_none h) Zd]; exact line15_none c x y w hl h
theorem laid15_of {W:World} {l:List (String × DataW Unit)} (h:laidMetH Tryz.prog l W) (hp:(l.all fun x=>x.2.handleName?.isNone) = true)
  (h1:("internal/strconv.uint64pow10",Rows.laid_internal_strconv_uint64pow10) ∈ l) (h2:("haulier/clause.titles",Rows.laid_haulier_clause_titles) ∈ l):Laid15 W:=by
 refine ⟨titles_of_laid h hp h2,?_⟩;rw [MakeChecks.laidMetH_plain _ _ _ hp] at h;obtain ⟨r,hr⟩:=laid_at h h1;rw [powData] at hr;exact Lib.tabIs_of_head gPow tPow Tryz.underlying235 Tryz.underlying213 cU64 cPow hr
section
variable {P:Program}
theorem setRow_new (W:World) (g:Nat) (old cs:Array Value) (t:TypeId) (hg:g = W.heap.size):(W.alloc (.cells old t)).setRow g cs = W.alloc (.cells cs t):=by
 subst hg;unfold World.setRow World.alloc;congr 1;apply Array.ext
 ·simp
 ·intro i h1 h2
  simp only [Array.getElem_modify];split
  ·rename_i h; subst h; simp
  ·rename_i h
   simp at h1;have hi:i < W.heap.size:=by omega
   simp [Array.getElem_push_lt hi]
theorem wpList_build_as {ops:Array Oper} {rest:List Oper} {o:Oper} {a:Act} {w:World} {Q:Exit -> Act -> World -> Prop} (hg:o.guard = none) (t:TypeId) (parts:Array (Nat × Operand)) (ho:o.op = .build t parts) (cells:Array Value)
  (hf:P.built t (parts.map fun (i,x)=>(i,a.eval x)).toList = some cells)
  (h:wpList P ops Q rest (a.put o.dst (.agg cells)) w):wpList P ops Q (o :: rest) a w :=
 wpList_build hg t parts ho (by rw [hf]; rfl) (by rw [hf]; exact h)
theorem wpList_store_new {ops:Array Oper} {rest:List Oper} {o:Oper} {a:Act} {W:World} {old:Array Value} {t:TypeId} {Q:Exit -> Act -> World -> Prop} (hgd:o.guard = none) (ty:TypeId) (x y:Operand) (ho:o.op = .store ty x y)
  (g:Nat) (cells:Array Value) (hx:a.eval x = .pointer (some ⟨g,0,none⟩)) (hy:a.eval y = .agg cells) (hgg:g = W.heap.size) (hi:(P.info? ty).map (·.size) = some cells.size)
  (hold:old.size = cells.size) (h1:cells.all (·.oneCell') = true)
  (h:wpList P ops Q rest (a.put o.dst undef) (W.alloc (.cells cells t))):wpList P ops Q (o :: rest) a (W.alloc (.cells old t)) :=
 wpList_store_row hgd ty x y ho g cells hx hy t old (by subst hgg; exact heap_alloc_new _ _) hi hold h1 (by rw [setRow_new W g old cells t hgg]; exact h)
end
section
variable {ops:Array Oper} {rest:List Oper} {o:Oper} {a:Act} {w:World} {Q:Exit -> Act -> World -> Prop} {K:Act -> World -> Prop}
theorem wpList_yields (hw:Region.wanted o (yielded ops a.tmps) = true) {v:Value} (he:∀ w,(execOp a.eval o).run Tryz.prog w = .ok (.value v) w)
  (h:wpList Tryz.prog ops Q rest (a.put o.dst v) w):wpList Tryz.prog ops Q (o :: rest) a w :=
 wpList_step fun K hK=>by
  rw [if_pos hw];unfold Oper.wp;rw [he];exact hK _ _ h
theorem quiet_yields {C:World -> Prop} {K:Act -> Prop} {v:Value} (he:∀ w,C w -> (execOp a.eval o).run Tryz.prog w = .ok (.value v) w) (h:K (a.put o.dst v)):o.quiet Tryz.prog a C K :=
 ⟨v,fun w hw=>by unfold Oper.quietAt; rw [he w hw]; exact ⟨rfl,rfl⟩,h⟩
theorem exec_build {r:Operand -> Value} {ty:TypeId} {parts:Array (Nat × Operand)} (cells:Array Value) (w:World) (ho:o.op = .build ty parts) (hf:Tryz.prog.built ty (parts.map fun (i,x)=>(i,r x)).toList = some cells) :
  (execOp r o).run Tryz.prog w = .ok (.value (.agg cells)) w:=by
 unfold execOp;simp only [ho,Sem.run_bind,run_build w ty _ cells hf,Result.andThen_ok];rfl
theorem yieldsIf_exec {S:World -> Prop} {v:Value} (hw:Region.wanted o (yielded ops a.tmps) = true) (he:∀ w,S w -> (execOp a.eval o).run Tryz.prog w = .ok (.value v) w):YieldsIf Tryz.prog ops S o v a:=.inl ⟨hw,he⟩
end
def bk (x:Nat -> Int):Array Value:=#[.int .i64 (x 0),.int .i64 (x 1),.int .i64 (x 2),.int .i64 (x 3),.int .i64 (x 4),.int .i64 (x 5),.int .i64 (x 6),.int .i64 (x 7),.int .i64 (x 8),.int .i64 (x 9),.int .i64 (x 10),.int .i64 (x 11),.int .i64 (x 12),.int .i64 (x 13),.int .i64 (x 14),.int .i64 (x 15),.int .i64 (x 16),.int .i64 (x 17),.int .i64 (x 18)]
theorem bk_size (x:Nat -> Int):(bk x).size = 19:=rfl
theorem bk_at (x:Nat -> Int):∀ i,i < 19 -> (bk x)[i]? = some (.int .i64 (x i)):=by
 intro i hi;have:i = 0 ∨ i = 1 ∨ i = 2 ∨ i = 3 ∨ i = 4 ∨ i = 5 ∨ i = 6 ∨ i = 7 ∨ i = 8 ∨ i = 9 ∨ i = 10 ∨ i = 11 ∨ i = 12 ∨ i = 13 ∨ i = 14 ∨ i = 15 ∨ i = 16 ∨ i = 17 ∨ i = 18:=by omega
 rcases this with rfl | rfl | rfl | rfl | rfl | rfl | rfl | rfl | rfl | rfl | rfl | rfl | rfl | rfl | rfl | rfl | rfl | rfl | rfl <;> rfl
theorem bk_one (x:Nat -> Int):(bk x).all (·.oneCell') = true:=by kernel_rfl
def RdI (w:World) (b off:Nat) (x:Nat -> Int):Prop:=b < w.heap.size /\ ∀ i,i < 19 -> w.cell? ⟨b,off + i,none⟩ = some (.int .i64 (x i))
theorem RdI.below {w w':World} {b off:Nat} {x:Nat -> Int} (h:RdI w b off x) (hb:Below w.heap.size w w'):RdI w' b off x :=
 ⟨Nat.lt_of_lt_of_le h.1 hb.size,fun i hi=>(hb.cell (p:=⟨b,off + i,none⟩) h.1).trans (h.2 i hi)⟩
theorem RdI.alloc {w:World} {b off:Nat} {x:Nat -> Int} (h:RdI w b off x) (o:Obj):RdI (w.alloc o) b off x :=
 h.below ((Below.refl _ _).alloc Zl o)
theorem RdI.new {w:World} {g:Nat} (x:Nat -> Int) (t:TypeId) (hg:g = w.heap.size):RdI (w.alloc (.cells (bk x) t)) g 0 x:=by
 subst hg;refine ⟨by simp,fun i hi=>?_⟩;rw [Nat.zero_add,cell_of_row _ _ _ _ _ _ (heap_alloc_new w _)];exact bk_at x i hi
section
variable {P:Program}
theorem RdI.range {w:World} {b off:Nat} {x:Nat -> Int} (h:RdI w b off x):w.rangeAt b off (bk x).toList:=fun j v hj=>by
 have hl:j < 19:=by
  have:=(List.getElem?_eq_some_iff.1 hj).1;simpa [bk_size] using this
 have e:=bk_at x j hl;rw [Array.getElem?_toList,e] at hj
 cases hj
 exact h.2 j hl
theorem run_loadAt_bk (w:World) (b off:Nat) (ty:TypeId) (x:Nat -> Int) (d:TypeDesc) (h:RdI w b off x)
  (hu:P.underlying ty = some d) (hd:d.isRow = true) (hi:(P.info? ty).map (·.size) = some 19) :
  (Instr.loadAt ty (.pointer (some ⟨b,off,none⟩))).run P w = .ok (.agg (bk x)) w:=by
 have:=run_loadAt_mid (P:=P) w b off ty (bk x).toList d h.range hu hd (by simpa [bk_size] using hi);simpa using this
theorem wpList_load_bk {ops:Array Oper} {rest:List Oper} {o:Oper} {a:Act} {w:World} {Q:Exit -> Act -> World -> Prop} (hgd:Region.wanted o (yielded ops a.tmps) = true) (ty:TypeId) (y:Operand) (ho:o.op = .load ty y)
  (b off:Nat) (hx:a.eval y = .pointer (some ⟨b,off,none⟩)) (x:Nat -> Int) (d:TypeDesc) (hr:RdI w b off x)
  (hu:P.underlying ty = some d) (hd:d.isRow = true) (hi:(P.info? ty).map (·.size) = some 19)
  (h:wpList P ops Q rest (a.put o.dst (.agg (bk x))) w):wpList P ops Q (o :: rest) a w :=
 wpList_step fun K hK=>by
  rw [if_pos hgd];exact wp_load_mid ty y ho b off hx (bk x).toList d hr.range hu hd (by simpa [bk_size] using hi) (hK _ _ (by simpa using h))
theorem results_bk {fn:Func} {p:Tmp} {ty:TypeId} (h:fn.results = #[.cell p ty]) (tmps:Array Value) (w:World) (g:Nat) (x:Nat -> Int) (d:TypeDesc)
  (hp:tmps.getD p undef = .pointer (some ⟨g,0,none⟩)) (hr:RdI w g 0 x)
  (hu:P.underlying ty = some d) (hd:d.isRow = true) (hi:(P.info? ty).map (·.size) = some 19) :
  (results fn tmps).run P w = .ok (.agg (bk x)) w:=by
 have hp':tmps[p]?.getD undef = .pointer (some ⟨g,0,none⟩):=by simpa using hp
 have hl:(loadVar ty ⟨g,0,none⟩).run P w = .ok (.agg (bk x)) w:=by
  have:=run_loadVar_mid (P:=P) w g 0 ty (bk x).toList d hr.range hu hd (by simpa [bk_size] using hi);simpa using this
 simp [results,h,hp',asAddr,hl]
end
theorem index_any (x:Nat -> Int) (w:World):∀ k,k < 19 -> (Instr.index 127 (.agg (bk x)) (.int .i64 (k:Nat))).run Tryz.prog w = .ok (.int .i64 (x k)) w:=by
 intro i hi;have:i = 0 ∨ i = 1 ∨ i = 2 ∨ i = 3 ∨ i = 4 ∨ i = 5 ∨ i = 6 ∨ i = 7 ∨ i = 8 ∨ i = 9 ∨ i = 10 ∨ i = 11 ∨ i = 12 ∨ i = 13 ∨ i = 14 ∨ i = 15 ∨ i = 16 ∨ i = 17 ∨ i = 18:=by omega
 rcases this with rfl | rfl | rfl | rfl | rfl | rfl | rfl | rfl | rfl | rfl | rfl | rfl | rfl | rfl | rfl | rfl | rfl | rfl | rfl <;> (show _ = _; kernel_rfl)
def euV:Nat -> Int
 | 0=>270
 | 1=>45
 | 2=>15
 | 3=>30
 | 4=>540
 | 5=>600
 | 6=>2
 | 7=>660
 | 8=>540
 | 9=>3
 | 10=>180
 | 11=>1440
 | 12=>2700
 | 13=>1440
 | 14=>8640
 | 15=>3360
 | 16=>5400
 | 17=>3600
 | 18=>10080
 | _=>0
set_option maxRecDepth 20000 in
theorem laid_any (x:Nat -> Int) (w:World) :
  Calls Tryz.prog 78 #[.agg (bk x)] w fun e w'=>e = .returned (.agg (bk x)) /\ Below w.heap.size w w':=by
 have z0:=bk_at x 0 Zo; have z1:=bk_at x 1 Zo; have z2:=bk_at x 2 Zo; have z3:=bk_at x 3 Zo; have z4:=bk_at x 4 Zo; have z5:=bk_at x 5 Zo; have z6:=bk_at x 6 Zo; have z7:=bk_at x 7 Zo; have z8:=bk_at x 8 Zo; have z9:=bk_at x 9 Zo; have z10:=bk_at x 10 Zo; have z11:=bk_at x 11 Zo; have z12:=bk_at x 12 Zo; have z13:=bk_at x 13 Zo; have z14:=bk_at x 14 Zo; have z15:=bk_at x 15 Zo; have z16:=bk_at x 16 Zo; have z17:=bk_at x 17 Zo; have z18:=bk_at x 18 Zo;go_enter Tryz.func78,Tryz.ntmps78;go_wp2_with (first | refine wpList_build_as rfl 127 _ rfl (bk x) Zk ?_ | refine wpList_store_new rfl 127 _ _ rfl _ (bk x) rfl rfl (by first | rfl | (simp; done)) Zk rfl (bk_one x) ?_);refine bodyPost_ret (v:=.agg (bk x)) (results_bk Tryz.results78 _ _ _ x _ Zv (RdI.new x _ (by first | rfl | (simp; done))) Tryz.underlying127 rfl Zk) rfl ⟨rfl,?_⟩;exact Zq
set_option maxRecDepth 20000 in
theorem refeurope_any  (w:World) :
  Calls Tryz.prog 20 #[] w fun e w'=>e = .returned (.agg (bk euV)) /\ Below w.heap.size w w':=by
 go_enter Tryz.func20,Tryz.ntmps20;go_wp2_with (first | refine wpList_build_as rfl 23 _ rfl (bk euV) Zk ?_ | refine wpList_store_new rfl 23 _ _ rfl _ (bk euV) rfl rfl (by first | rfl | (simp; done)) Zk rfl (bk_one euV) ?_);refine bodyPost_ret (v:=.agg (bk euV)) (results_bk Tryz.results20 _ _ _ euV _ Zv (RdI.new euV _ (by first | rfl | (simp; done))) Tryz.underlying23 rfl Zk) rfl ⟨rfl,?_⟩;exact Zq
def lim (i:Nat) (n:Int):Prop:=if i = 6 ∨ i = 9 then 0 <= n /\ n <= 1000 else 1 <= n /\ n <= 40320
def Ord (x:Nat -> Int):Prop:=x 2 <= x 1 /\ x 3 <= x 1 /\ x 1 <= x 10 /\ x 10 <= x 8 /\ x 8 <= x 7 /\ x 7 <= x 13 /\ x 13 <= x 12 /\ x 4 <= x 5 /\ x 8 < x 11
def May (x:Nat -> Int):Prop:=(∀ i,i < 19 -> lim i (x i)) /\ Ord x
theorem lim_count {i:Nat} {n:Int} (h:i = 6 ∨ i = 9):lim i n ↔ 0 <= n /\ n <= 1000:=by unfold lim; rw [if_pos h]
theorem lim_time {i:Nat} {n:Int} (h:¬ (i = 6 ∨ i = 9)):lim i n ↔ 1 <= n /\ n <= 40320:=by unfold lim; rw [if_neg h]
set_option maxRecDepth 20000 in
set_option maxHeartbeats 1600000 in
open Classical in
theorem ordered_any (x:Nat -> Int) (w:World) :
  Calls Tryz.prog 79 #[.agg (bk x)] w fun e w'=>e = .returned (.bool (if Ord x then true else false)) /\ Below w.heap.size w w':=by
 have z0:=bk_at x 0 Zo; have z1:=bk_at x 1 Zo; have z2:=bk_at x 2 Zo; have z3:=bk_at x 3 Zo; have z4:=bk_at x 4 Zo; have z5:=bk_at x 5 Zo; have z6:=bk_at x 6 Zo; have z7:=bk_at x 7 Zo; have z8:=bk_at x 8 Zo; have z9:=bk_at x 9 Zo; have z10:=bk_at x 10 Zo; have z11:=bk_at x 11 Zo; have z12:=bk_at x 12 Zo; have z13:=bk_at x 13 Zo; have z14:=bk_at x 14 Zo; have z15:=bk_at x 15 Zo; have z16:=bk_at x 16 Zo; have z17:=bk_at x 17 Zo; have z18:=bk_at x 18 Zo;by_cases c0:x 2 <= x 1
 case neg =>
  rw [if_neg (by unfold Ord; omega)];have n0:x 1 < x 2:=by omega
  have d0:decide (x 2 <= x 1) = false:=decide_eq_false c0;clear c0;go_enter Tryz.func79,Tryz.ntmps79;go_wp2;go_ret;exact ⟨rfl,(Below.refl _ _).alloc Zl _⟩
 by_cases c1:x 3 <= x 1
 case neg =>
  rw [if_neg (by unfold Ord; omega)];have n1:x 1 < x 3:=by omega
  have d1:decide (x 3 <= x 1) = false:=decide_eq_false c1;clear c1;go_enter Tryz.func79,Tryz.ntmps79;go_wp2;go_ret;exact ⟨rfl,(Below.refl _ _).alloc Zl _⟩
 by_cases c2:x 1 <= x 10
 case neg =>
  rw [if_neg (by unfold Ord; omega)];have n2:x 10 < x 1:=by omega
  have d2:decide (x 1 <= x 10) = false:=decide_eq_false c2;clear c2;go_enter Tryz.func79,Tryz.ntmps79;go_wp2;go_ret;exact ⟨rfl,(Below.refl _ _).alloc Zl _⟩
 by_cases c3:x 10 <= x 8
 case neg =>
  rw [if_neg (by unfold Ord; omega)];have n3:x 8 < x 10:=by omega
  have d3:decide (x 10 <= x 8) = false:=decide_eq_false c3;clear c3;go_enter Tryz.func79,Tryz.ntmps79;go_wp2;go_ret;exact ⟨rfl,(Below.refl _ _).alloc Zl _⟩
 by_cases c4:x 8 <= x 7
 case neg =>
  rw [if_neg (by unfold Ord; omega)];have n4:x 7 < x 8:=by omega
  have d4:decide (x 8 <= x 7) = false:=decide_eq_false c4;clear c4;go_enter Tryz.func79,Tryz.ntmps79;go_wp2;go_ret;exact ⟨rfl,(Below.refl _ _).alloc Zl _⟩
 by_cases c5:x 7 <= x 13
 case neg =>
  rw [if_neg (by unfold Ord; omega)];have n5:x 13 < x 7:=by omega
  have d5:decide (x 7 <= x 13) = false:=decide_eq_false c5;clear c5;go_enter Tryz.func79,Tryz.ntmps79;go_wp2;go_ret;exact ⟨rfl,(Below.refl _ _).alloc Zl _⟩
 by_cases c6:x 13 <= x 12
 case neg =>
  rw [if_neg (by unfold Ord; omega)];have n6:x 12 < x 13:=by omega
  have d6:decide (x 13 <= x 12) = false:=decide_eq_false c6;clear c6;go_enter Tryz.func79,Tryz.ntmps79;go_wp2;go_ret;exact ⟨rfl,(Below.refl _ _).alloc Zl _⟩
 by_cases c7:x 4 <= x 5
 case neg =>
  rw [if_neg (by unfold Ord; omega)];have n7:x 5 < x 4:=by omega
  have d7:decide (x 4 <= x 5) = false:=decide_eq_false c7;clear c7;go_enter Tryz.func79,Tryz.ntmps79;go_wp2;go_ret;exact ⟨rfl,(Below.refl _ _).alloc Zl _⟩
 by_cases c8:x 8 < x 11
 case neg =>
  rw [if_neg (by unfold Ord; omega)];have n8:x 11 <= x 8:=by omega
  have d8:decide (x 8 < x 11) = false:=decide_eq_false c8;clear c8;go_enter Tryz.func79,Tryz.ntmps79;go_wp2;go_ret;exact ⟨rfl,(Below.refl _ _).alloc Zl _⟩
 rw [if_pos (by unfold Ord; omega)];go_enter Tryz.func79,Tryz.ntmps79;go_wp2;go_ret;exact ⟨rfl,(Below.refl _ _).alloc Zl _⟩
set_option maxRecDepth 20000 in
set_option maxHeartbeats 1600000 in
open Classical in
theorem within_any (x:Nat -> Int) (w:World) :
  Calls Tryz.prog 77 #[.agg (bk x)] w fun e w'=>e = .returned (.bool (if ∀ i,i < 19 -> lim i (x i) then true else false)) /\ Below w.heap.size w w':=by
 obtain ⟨v,hv⟩:∃ v,(if ∀ i,i < 19 -> lim i (x i) then true else false) = v:=⟨_,rfl⟩;rw [hv];have HV:=Zh hv;clear hv;go_enter Tryz.func77,Tryz.ntmps77;go_wp2_with (refine wpList_load_bk Zv 127 _ rfl _ _ rfl x _ (RdI.new x _ (by first | rfl | (simp; done))) Tryz.underlying127 rfl Zk ?_);go_loop [8] (fun i=>∃ k:Nat,k <= 19 /\ i = .int .i64 k /\ Hid (∀ j,j < k -> lim j (x j))) (fun i=>19 - (intOf i).toNat)
 case atStart=>exact ⟨0,Nat.zero_le _,rfl,Zh (fun j hj=>by omega)⟩
 case round =>
  obtain ⟨k,hk,rfl,H⟩:=hrel;by_cases hlt:k < 19
  case neg =>
   have hk19:k = 19:=by omega
   subst hk19;go_wp2;go_ret;refine ⟨?_,(Below.refl _ _).alloc Zl _⟩;rw [<- HV.out,if_pos H.out]; rfl
  have hi0:=fun W=>index_any x W k hlt
  obtain ⟨n,hn⟩:∃ n,x k = n:=⟨_,rfl⟩;rw [hn] at hi0;have hn:=Zh hn;by_cases k0:k = 6
  case pos =>
   have e6:((k:Int) == 6) = true:=by simp; omega
   have L:lim k n ↔ 0 <= n /\ n <= 1000:=(lim_count Zo);clear k0;by_cases lo:n < 0
   case pos =>
    have dl:decide (n < 0) = true:=decide_eq_true lo;have LN:Hid (¬ lim k n):=Zh (fun h=>by have:=L.1 h; omega);clear L;go_wp2;go_ret;refine ⟨?_,(Below.refl _ _).alloc Zl _⟩;rw [<- HV.out,if_neg (fun h=>LN.out (by have:=h k hlt; rwa [hn.out] at this))]; rfl
   have lo':0 <= n:=by omega
   have dl:decide (n < 0) = false:=decide_eq_false lo;clear lo;by_cases hi:1000 < n
   case pos =>
    have dh:decide (1000 < n) = true:=decide_eq_true hi;have LN:Hid (¬ lim k n):=Zh (fun h=>by have:=L.1 h; omega);clear L;go_wp2;go_ret;refine ⟨?_,(Below.refl _ _).alloc Zl _⟩;rw [<- HV.out,if_neg (fun h=>LN.out (by have:=h k hlt; rwa [hn.out] at this))]; rfl
   have hi':n <= 1000:=by omega
   have dh:decide (1000 < n) = false:=decide_eq_false hi;have LY:Hid (lim k n):=Zh (L.2 ⟨lo',hi'⟩);clear L hi;go_wp2;go_round
   case rel=>exact ⟨k + 1,by omega,by go_num,Zh (fun j hj=>by
     by_cases e:j = k
     ·subst e; rw [hn.out]; exact LY.out
     ·exact H.out j Zo)⟩
   case measure=>simp [intOf]; omega
  by_cases k1:k = 9
  case pos =>
   have e6:((k:Int) == 6) = false:=by simp; omega
   have e9:((k:Int) == 9) = true:=by simp; omega
   have L:lim k n ↔ 0 <= n /\ n <= 1000:=(lim_count Zo);clear k1;by_cases lo:n < 0
   case pos =>
    have dl:decide (n < 0) = true:=decide_eq_true lo;have LN:Hid (¬ lim k n):=Zh (fun h=>by have:=L.1 h; omega);clear L;go_wp2;go_ret;refine ⟨?_,(Below.refl _ _).alloc Zl _⟩;rw [<- HV.out,if_neg (fun h=>LN.out (by have:=h k hlt; rwa [hn.out] at this))]; rfl
   have lo':0 <= n:=by omega
   have dl:decide (n < 0) = false:=decide_eq_false lo;clear lo;by_cases hi:1000 < n
   case pos =>
    have dh:decide (1000 < n) = true:=decide_eq_true hi;have LN:Hid (¬ lim k n):=Zh (fun h=>by have:=L.1 h; omega);clear L;go_wp2;go_ret;refine ⟨?_,(Below.refl _ _).alloc Zl _⟩;rw [<- HV.out,if_neg (fun h=>LN.out (by have:=h k hlt; rwa [hn.out] at this))]; rfl
   have hi':n <= 1000:=by omega
   have dh:decide (1000 < n) = false:=decide_eq_false hi;have LY:Hid (lim k n):=Zh (L.2 ⟨lo',hi'⟩);clear L hi;go_wp2;go_round
   case rel=>exact ⟨k + 1,by omega,by go_num,Zh (fun j hj=>by
     by_cases e:j = k
     ·subst e; rw [hn.out]; exact LY.out
     ·exact H.out j Zo)⟩
   case measure=>simp [intOf]; omega
  have e6:((k:Int) == 6) = false:=by simp; omega
  have e9:((k:Int) == 9) = false:=by simp; omega
  have L:lim k n ↔ 1 <= n /\ n <= 40320:=(lim_time Zo);by_cases lo:n < 1
  case pos =>
   have dl:decide (n < 1) = true:=decide_eq_true lo;have LN:Hid (¬ lim k n):=Zh (fun h=>by have:=L.1 h; omega);clear L;go_wp2;go_ret;refine ⟨?_,(Below.refl _ _).alloc Zl _⟩;rw [<- HV.out,if_neg (fun h=>LN.out (by have:=h k hlt; rwa [hn.out] at this))]; rfl
  have lo':1 <= n:=by omega
  have dl:decide (n < 1) = false:=decide_eq_false lo;clear lo;by_cases hi:40320 < n
  case pos =>
   have dh:decide (40320 < n) = true:=decide_eq_true hi;have LN:Hid (¬ lim k n):=Zh (fun h=>by have:=L.1 h; omega);clear L;go_wp2;go_ret;refine ⟨?_,(Below.refl _ _).alloc Zl _⟩;rw [<- HV.out,if_neg (fun h=>LN.out (by have:=h k hlt; rwa [hn.out] at this))]; rfl
  have hi':n <= 40320:=by omega
  have dh:decide (40320 < n) = false:=decide_eq_false hi;have LY:Hid (lim k n):=Zh (L.2 ⟨lo',hi'⟩);clear L hi;go_wp2;go_round
  case rel=>exact ⟨k + 1,by omega,by go_num,Zh (fun j hj=>by
    by_cases e:j = k
    ·subst e; rw [hn.out]; exact LY.out
    ·exact H.out j Zo)⟩
  case measure=>simp [intOf]; omega
set_option maxRecDepth 20000 in
open Classical in
theorem check7_any (x:Nat -> Int) (w:World) :
  Calls Tryz.prog 38 #[.agg (bk x)] w fun e w'=>e = .returned (.int .i64 (if May x then 0 else 14)) /\ Below w.heap.size w w':=by
 have C1:=fun W=>within_any x W
 have C2:=fun W=>ordered_any x W
 unfold May;by_cases hw:∀ i,i < 19 -> lim i (x i)
 case neg =>
  rw [if_neg hw] at C1;rw [if_neg (fun h=>hw h.1)];clear hw;go_enter Tryz.func38,Tryz.ntmps38
  go_wp2_with (first
   | refine wpList_load_bk Zv 23 _ rfl _ _ rfl x _ (RdI.new x _ (by first | rfl | (simp; done))) Tryz.underlying23 rfl Zk ?_
   | refine wpList_load_bk Zv 23 _ rfl _ _ rfl x _ (hr2) Tryz.underlying23 rfl Zk ?_
   | (go_at_call 78; (with_reducible refine (laid_any x _).mono ?_); rintro e w1 ⟨rfl,hb1⟩; have hr1:=(RdI.new x 23 rfl).below hb1; have hz1:=hb1.size; (try simp at hz1))
   | (go_at_call 77; (with_reducible refine (C1 _).mono ?_); rintro e w2 ⟨rfl,hb2⟩; have hr2:=hr1.below hb2; have hz2:=hb2.size; (try simp at hz2))
   | (go_at_call 79; (with_reducible refine (C2 _).mono ?_); rintro e w3 ⟨rfl,hb3⟩; have hz3:=hb3.size; (try simp at hz3)))
  go_ret;refine ⟨rfl,?_⟩;exact Zq
 by_cases ho:Ord x
 case neg =>
  rw [if_pos hw] at C1;rw [if_neg ho] at C2;rw [if_neg (fun h=>ho h.2)];clear hw ho;go_enter Tryz.func38,Tryz.ntmps38
  go_wp2_with (first
   | refine wpList_load_bk Zv 23 _ rfl _ _ rfl x _ (RdI.new x _ (by first | rfl | (simp; done))) Tryz.underlying23 rfl Zk ?_
   | refine wpList_load_bk Zv 23 _ rfl _ _ rfl x _ (hr2) Tryz.underlying23 rfl Zk ?_
   | (go_at_call 78; (with_reducible refine (laid_any x _).mono ?_); rintro e w1 ⟨rfl,hb1⟩; have hr1:=(RdI.new x 23 rfl).below hb1; have hz1:=hb1.size; (try simp at hz1))
   | (go_at_call 77; (with_reducible refine (C1 _).mono ?_); rintro e w2 ⟨rfl,hb2⟩; have hr2:=hr1.below hb2; have hz2:=hb2.size; (try simp at hz2))
   | (go_at_call 79; (with_reducible refine (C2 _).mono ?_); rintro e w3 ⟨rfl,hb3⟩; have hz3:=hb3.size; (try simp at hz3)))
  go_ret;refine ⟨rfl,?_⟩;exact Zq
 rw [if_pos hw] at C1;rw [if_pos ho] at C2;rw [if_pos ⟨hw,ho⟩];clear hw ho;go_enter Tryz.func38,Tryz.ntmps38
 go_wp2_with (first
  | refine wpList_load_bk Zv 23 _ rfl _ _ rfl x _ (RdI.new x _ (by first | rfl | (simp; done))) Tryz.underlying23 rfl Zk ?_
  | refine wpList_load_bk Zv 23 _ rfl _ _ rfl x _ (hr2) Tryz.underlying23 rfl Zk ?_
  | (go_at_call 78; (with_reducible refine (laid_any x _).mono ?_); rintro e w1 ⟨rfl,hb1⟩; have hr1:=(RdI.new x 23 rfl).below hb1; have hz1:=hb1.size; (try simp at hz1))
  | (go_at_call 77; (with_reducible refine (C1 _).mono ?_); rintro e w2 ⟨rfl,hb2⟩; have hr2:=hr1.below hb2; have hz2:=hb2.size; (try simp at hz2))
  | (go_at_call 79; (with_reducible refine (C2 _).mono ?_); rintro e w3 ⟨rfl,hb3⟩; have hz3:=hb3.size; (try simp at hz3)))
 go_ret;refine ⟨rfl,?_⟩;exact Zq
end Go.Proofs.YtiamnbddbmgffaaGreatDoor
