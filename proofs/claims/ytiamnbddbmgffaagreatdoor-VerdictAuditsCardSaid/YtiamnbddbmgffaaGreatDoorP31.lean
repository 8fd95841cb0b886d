/- Texts of the proofs of VerdictAudits, VerdictAll, VerdictRising, pressed: TrailHand, TrailFound, Math, LoadMath, Case, BookOpen, RecOpen, ErrandOpen, IntsOpen. Conditions: as each theorem says. -/
import Derived.Test.YtiamnbddbmgffaaGreatDoorRows
import Derived.Test.YtiamnbddbmgffaaGreatDoorP30
import Derived.ChangeSlices
import Derived.Lib.SmallJoins
import Derived.Deep.Fields
import Derived.ProofKit
import Derived.Deep.Slices
import Derived.Deep.SlicePairs
namespace Go.Proofs.YtiamnbddbmgffaaGreatDoor
open Go.RowKit
set_option linter.unusedVariables false
def fget (f:Fs) (i:Nat):Int:=if i = 0 then f.1 else if i = 1 then f.2.1 else if i = 2 then f.2.2.1 else f.2.2.2
def GF (F:Fs):Gs:=fun c=>if c < 4 /\ 0 <= fget F c then some (fget F c) else none
def stepG (f:Fs):Nat -> Gs -> Gs
 | 0,G=>G
 | i + 1,G=>if 0 <= fget f i then putG (stepG f i G) i (fget f i) else stepG f i G
theorem fget_comb (F f:Fs) (i:Nat):fget (combF F f) i = if fget F i < 0 then fget f i else fget F i:=by
 unfold fget combF
 repeat' split
 all_goals first | rfl | contradiction | omega
theorem stepG_at (F f:Fs):∀ (i:Nat),i <= 4 -> ∀ c,stepG f i (GF F) c = if c < i then GF (combF F f) c else GF F c
 | 0,_,c=>by simp [stepG]
 | i + 1,hi,c=>by
  have ih:=stepG_at F f i Zo;unfold stepG
  have hc:GF (combF F f) c = if c < 4 /\ 0 <= (if fget F c < 0 then fget f c else fget F c) then some (if fget F c < 0 then fget f c else fget F c) else none:=by
   unfold GF; rw [fget_comb]
  by_cases h:0 <= fget f i
  ·rw [if_pos h]
   unfold putG;by_cases e:c = i
   ·subst e
    rw [ih c,if_neg (Nat.lt_irrefl _),if_pos (Nat.lt_succ_self _),hc];unfold GF;by_cases k:0 <= fget F c
    ·have k2:¬ fget F c < 0:=by omega
     have c4:c < 4:=by omega
     simp [k,k2,c4]
    ·have k2:fget F c < 0:=by omega
     have c4:c < 4:=by omega
     simp [k,k2,h,c4]
   ·rw [if_neg (fun k=>e k.1),ih c]
    by_cases k:c < i
    ·rw [if_pos k,if_pos Zo]
    ·rw [if_neg k,if_neg Zo]
  ·rw [if_neg h,ih c]
   by_cases e:c = i
   ·subst e
    rw [if_neg (Nat.lt_irrefl _),if_pos (Nat.lt_succ_self _),hc];unfold GF;by_cases k:0 <= fget F c
    ·have k2:¬ fget F c < 0:=by omega
     simp [k,k2]
    ·have k2:fget F c < 0:=by omega
     simp [k,k2,h]
   ·by_cases k:c < i
    ·rw [if_pos k,if_pos Zo]
    ·rw [if_neg k,if_neg Zo]
theorem stepG_comb (F f:Fs):stepG f 4 (GF F) = GF (combF F f):=by
 funext c;rw [stepG_at F f 4 Zl c];by_cases h:c < 4
 ·rw [if_pos h]
 ·rw [if_neg h]
  unfold GF;rw [if_neg (fun k=>h k.1),if_neg (fun k=>h k.1)]
theorem index4_0 (f0 f1 f2 f3:Int) (w:World):(Instr.index 100 (.agg #[.int .i64 f0,.int .i64 f1,.int .i64 f2,.int .i64 f3]) (.int .i64 0)).run Tryz.prog w = .ok (.int .i64 f0) w:=by kernel_rfl
theorem index4_1 (f0 f1 f2 f3:Int) (w:World):(Instr.index 100 (.agg #[.int .i64 f0,.int .i64 f1,.int .i64 f2,.int .i64 f3]) (.int .i64 1)).run Tryz.prog w = .ok (.int .i64 f1) w:=by kernel_rfl
theorem index4_2 (f0 f1 f2 f3:Int) (w:World):(Instr.index 100 (.agg #[.int .i64 f0,.int .i64 f1,.int .i64 f2,.int .i64 f3]) (.int .i64 2)).run Tryz.prog w = .ok (.int .i64 f2) w:=by kernel_rfl
theorem index4_3 (f0 f1 f2 f3:Int) (w:World):(Instr.index 100 (.agg #[.int .i64 f0,.int .i64 f1,.int .i64 f2,.int .i64 f3]) (.int .i64 3)).run Tryz.prog w = .ok (.int .i64 f3) w:=by kernel_rfl
theorem index4 (f:Fs) (i:Nat) (hi:i < 4) (w:World):(Instr.index 100 (.agg #[.int .i64 f.1,.int .i64 f.2.1,.int .i64 f.2.2.1,.int .i64 f.2.2.2]) (.int .i64 (i:Int))).run Tryz.prog w = .ok (.int .i64 (fget f i)) w:=by
 have:i = 0 ∨ i = 1 ∨ i = 2 ∨ i = 3:=by omega
 rcases this with rfl | rfl | rfl | rfl
 ·exact index4_0 _ _ _ _ w
 ·exact index4_1 _ _ _ _ w
 ·exact index4_2 _ _ _ _ w
 ·exact index4_3 _ _ _ _ w
structure HanS (base E L N:Nat) (l:List Rc) (s:Nat) (W:World):Prop where
 ns:NotS base E L l s W
 bN:Bx W N 94 #[.func (.func 50) #[] #[.pointer (some ⟨E,0,none⟩),.pointer (some ⟨L,0,none⟩)]]
 nb:N < base
 nE:N ≠ E
 nL:N ≠ L
theorem HanS.below {base E L N:Nat} {l:List Rc} {s:Nat} {W W':World} (h:HanS base E L N l s W) (hb:Below W.heap.size W W'):HanS base E L N l s W' :=
 ⟨h.ns.below hb,h.bN.below hb,h.nb,h.nE,h.nL⟩
set_option maxRecDepth 20000 in
set_option maxHeartbeats 2000000 in
theorem hand20_any (base E L N:Nat) (l:List Rc) (s:Nat) (G:Gs) (k a b:Int) (sp tp:Pt) (f:Fs) (W:World) (h:HanS base E L N l s W) (hr:RepG l s G) (hf:∀ i,i < 4 -> fget f i <= 40320) :
  Calls Tryz.prog 52 #[.agg (pc13 k a b sp tp f),.pointer (some ⟨N,0,none⟩)] W fun e W' =>
   e = .returned (.tuple #[]) /\ (∃ l' s',HanS base E L N l' s' W' /\ RepG l' s' (stepG f 4 G)) /\ KpT 52 base E L W W':=by
 have X0:Bx (W.alloc (.cells (pc13 k a b sp tp f) 102)) W.heap.size 102 (pc13 k a b sp tp f):=Bx.new (W:=W) _ _ rfl;have HX0:=Zh X0;have H0:=Zh (h.below (b_al (Below.refl _ _) Zl (.cells (pc13 k a b sp tp f) 102)));have HR:=Zh hr;have HFB:=Zh hf;have HK0:=Zh (KpT.of_below (T:=52) (base:=base) (E:=E) (L:=L) (b_al (Below.refl W.heap.size W) Zl (.cells (pc13 k a b sp tp f) 102)) rfl);have lw:W.heap.size < (W.alloc (.cells (pc13 k a b sp tp f) 102)).heap.size:=by simp
 clear h hr hf X0;go_enter Tryz.func52,Tryz.ntmps52;go_upto_region 1 with fail
 generalize W.alloc (.cells (pc13 k a b sp tp f) 102) = W1 at *;have p9:W1.cell? ⟨W.heap.size,9,none⟩ = some (.int .i64 f.1):=HX0.out.cell (k:=9) rfl;have p10:W1.cell? ⟨W.heap.size,10,none⟩ = some (.int .i64 f.2.1):=HX0.out.cell (k:=10) rfl;have p11:W1.cell? ⟨W.heap.size,11,none⟩ = some (.int .i64 f.2.2.1):=HX0.out.cell (k:=11) rfl;have p12:W1.cell? ⟨W.heap.size,12,none⟩ = some (.int .i64 f.2.2.2):=HX0.out.cell (k:=12) rfl;go_wp2;clear p9 p10 p11 p12 HX0 lw;go_loopw [7] (fun s7 wr=>∃ (i:Nat) (l:List Rc) (s:Nat),i <= 4 /\ s7 = .int .i64 (i:Int) /\ HanS base E L N l s wr /\ Hid (RepG l s (stepG f i G)) /\ KpT 52 base E L W wr) (fun s7 _=>4 - (intOf s7).toNat)
 case atStart=>exact ⟨0,l,s,by omega,rfl,H0.out,HR,HK0.out⟩
 case round =>
  clear H0 HR HK0;obtain ⟨i,l,s,hi,rfl,H,HR,HK⟩:=hrel;obtain ⟨w2,rfl⟩:∃ w2:World,w2 = wr:=⟨_,rfl⟩;by_cases hlt:i < 4
  ·have hix:=fun W=>index4 f i hlt W
   obtain ⟨v,hv⟩:∃ v,fget f i = v:=⟨_,rfl⟩;have hv2:=HFB.out i hlt;rw [hv] at hix hv2;have cN:=H.bN.cell (k:=0) rfl;have lN:=H.bN.lt;by_cases hp:0 <= v
   ·have CN:=fun W (h:NotS base E L l s W)=>note20_any base E L l s (stepG f i G) i v W h HR.out Zo hp hv2
    have HE:=Zh (show stepG f (i + 1) G = putG (stepG f i G) i v by
     show (if 0 <= fget f i then _ else _) = _
     rw [hv,if_pos hp])
    have HH:=Zh H;have HKh:=Zh HK;obtain ⟨kk,hkk⟩:∃ kk,10 + i = kk:=⟨_,rfl⟩;rw [hkk] at CN;have e10:(10:Int) + (i:Int) = (kk:Int):=by omega
    clear hkk;have hlt':(i:Int) < 4:=by omega
    clear H HK hv;go_wp2_with (go_at_call 50; refine (CN _ HH.out.ns).mono ?_; rintro e w3 ⟨rfl,⟨l3,s3,hn3,hr3⟩,hk3⟩);have HH3:=Zh (show HanS base E L N l3 s3 w3 from ⟨hn3,hk3.bx HH.out.bN HH.out.nE HH.out.nL Zd,HH.out.nb,HH.out.nE,HH.out.nL⟩);have HR3:=Zh (show RepG l3 s3 (stepG f (i + 1) G) by rw [HE.out]; exact hr3);have HK3:=Zh (HKh.out.trans hk3);clear hn3 hr3 hk3 CN HE;go_roundw
    case rel=>exact ⟨i + 1,l3,s3,by omega,by go_num,HH3.out,HR3,HK3.out⟩
    case measure=>simp [intOf]; omega
   ·have hp':v < 0:=by omega
    have HE:=Zh (show stepG f (i + 1) G = stepG f i G by
     show (if 0 <= fget f i then _ else _) = _
     rw [hv,if_neg hp])
    have hlt':(i:Int) < 4:=by omega
    clear hp hv;go_wp2;go_roundw
    case rel=>exact ⟨i + 1,l,s,by omega,by go_num,H,Zh (by rw [HE.out]; exact HR.out),HK⟩
    case measure=>simp [intOf]; omega
  ·obtain rfl:i = 4:=by omega
   go_wp2;exact bodyPost_end (results_none Tryz.results52 _ _ _) rfl ⟨rfl,⟨l,s,H,HR.out⟩,HK⟩
theorem run_note {l:List Tk} {ks:List Int} {m0:Int} {s0:Pt} {i n:Nat} {k:Int} {s s':Pt} {F f:Fs} (hi:i <= ks.length) (hm:0 <= m0) (hk:ks.take (i + n) = ks.take i ++ List.replicate n k) (hs:runS l (ks.take i) m0 (s0,none4) = (s,F))
  (hr:runK l k n (m0 + i) (s,none4) = (s',f)):runS l (ks.take (i + n)) m0 (s0,none4) = (s',combF F f):=by
 have hF:Fok F:=by
  have:=runS_ok (l:=l) (ks.take i) (m:=m0) (st:=(s0,none4)) fok_none hm;rw [hs] at this;exact this
 rw [hk,runS_append,runS_rep,List.length_take,Nat.min_eq_left hi,hs];have e:(s,F) = (s,combF F none4):=by rw [combF_none hF]
 rw [e,runK_comb,hr]
theorem runK_lt {l:List Tk} {k:Int} {n:Nat} {m:Int} {s s':Pt} {f:Fs} (hm:0 <= m) (hr:runK l k n m (s,none4) = (s',f)):∀ i,i < 4 -> fget f i < m + n:=by
 have h:=runS_hi (l:=l) (List.replicate n k) (m:=m) (st:=(s,none4)) ⟨by unfold none4; simp only; omega,by unfold none4; simp only; omega,by unfold none4; simp only; omega,by unfold none4; simp only; omega⟩;rw [runS_rep,hr,List.length_replicate] at h;obtain ⟨h0,h1,h2,h3⟩:=h;intro i hi;unfold fget;simp only at h0 h1 h2 h3
 repeat' split
 all_goals assumption
def outG (G:Gs):Nat -> List Rc
 | 0=>[]
 | c + 1=>outG G c ++ (match G c with | some v=>[(((10 + c:Nat):Int),v,v + 1)] | none=>[])
theorem outG_mem (G:Gs):∀ (n:Nat) (r:Rc),r ∈ outG G n ↔ ∃ c:Nat,c < n /\ G c = some r.2.1 /\ r.1 = ((10 + c:Nat):Int) /\ r.2.2 = r.2.1 + 1
 | 0,r=>by simp [outG]
 | n + 1,r=>by
  unfold outG;rw [List.mem_append,outG_mem G n r];constructor
  ·rintro (⟨c,hc,h⟩ | h)
   ·exact ⟨c,by omega,h⟩
   ·cases hG:G n with
    | none=>rw [hG] at h; cases h
    | some v =>
     rw [hG] at h;rw [List.mem_singleton] at h;subst h;exact ⟨n,by omega,hG,rfl,rfl⟩
  ·rintro ⟨c,hc,h1,h2,h3⟩
   by_cases e:c = n
   ·subst e
    right;rw [h1];rw [List.mem_singleton];obtain ⟨x,y,z⟩:=r;simp only at h2 h3 ⊢;rw [h2,h3]
   ·exact .inl ⟨c,by omega,h1,h2,h3⟩
theorem outG_sorted (G:Gs):∀ n,(outG G n).Pairwise ltF
 | 0=>List.Pairwise.nil
 | n + 1=>by
  unfold outG;rw [List.pairwise_append];refine ⟨outG_sorted G n,?_,fun x hx y hy=>?_⟩
  ·cases G n with
   | none=>exact List.Pairwise.nil
   | some v=>exact List.pairwise_singleton _ _
  ·obtain ⟨c,hc,_,h2,_⟩:=(outG_mem G n x).1 hx
   cases hG:G n with
   | none=>rw [hG] at hy; cases hy
   | some v =>
    rw [hG] at hy;rw [List.mem_singleton] at hy;subst hy;refine Or.inl ?_;rw [h2];simp only;omega
theorem outG_len (G:Gs):∀ n,(outG G n).length <= n
 | 0=>Nat.le_refl _
 | n + 1=>by
  unfold outG;have:=outG_len G n;rw [List.length_append]
  cases G n with
  | none=>simp; omega
  | some v=>simp; omega
theorem outG_is {G:Gs} {l r:List Rc} {s:Nat} (h:RepG l s G) (hs:SetF r l):r = outG G 5 :=
 sorted_unique hs.1 (outG_sorted G 5) fun x=>by rw [hs.2,h.mem,outG_mem]
def allG (l:List Tk) (r:List Rc) (X:Pt × Fs):Gs:=fun c=>if c = 4 then (if X.1.1 < l.length then some (lastT r) else none) else GF X.2 c
def audV (l:List Tk) (s:Pt) (r:List Rc):Pt × List Rc × Int :=
 if checkE l s r = 0 then ((runS l (kindsV r) (beg r) (s,none4)).1,outG (allG l r (runS l (kindsV r) (beg r) (s,none4))) 5,0) else ((0,0,0),[],checkE l s r)
theorem aud_bad {l:List Tk} {s:Pt} {r:List Rc} {e:Int} (h:checkE l s r = e) (hne:e ≠ 0):audV l s r = ((0,0,0),[],e):=by unfold audV; rw [h,if_neg hne]
theorem aud_ok {l:List Tk} {s:Pt} {r:List Rc} {X:Pt × Fs} (h:checkE l s r = 0) (hX:runS l (kindsV r) (beg r) (s,none4) = X):audV l s r = (X.1,outG (allG l r X) 5,0):=by unfold audV; rw [if_pos h,hX]
theorem GF_four (F:Fs):GF F 4 = none:=by unfold GF; rw [if_neg (fun c=>absurd c.1 Zd)]
theorem allG_none {l:List Tk} {r:List Rc} {X:Pt × Fs} (h:¬ X.1.1 < l.length):allG l r X = GF X.2:=by
 funext c;unfold allG;by_cases e:c = 4
 ·subst e; rw [if_pos rfl,if_neg h,GF_four]
 ·rw [if_neg e]
theorem allG_left {l:List Tk} {r:List Rc} {X:Pt × Fs} (h:X.1.1 < l.length):allG l r X = putG (GF X.2) 4 (lastT r):=by
 funext c;rw [putG_none (GF_four _)];unfold allG;by_cases e:c = 4
 ·subst e; rw [if_pos rfl,if_pos rfl,if_pos h]
 ·rw [if_neg e,if_neg e]
theorem OwnF.held {base q:Nat} {t:TypeId} {old cs:Array Value} {w w':World} {v:Value} {l:List Rc} (h:OwnF base w v l) (hb:Bx w q t old) (ht:t ≠ 52) (u:Upd w q t cs w'):OwnF base w' v l :=
 row_block h fun k hk=>u.other k fun e=>by
  subst e;obtain ⟨cs',z,hh⟩:=row_type (show w.ownsRow base 52 3 _ _ _ from h) hk;unfold Bx at hb;rw [hb] at hh;injection hh with hh
  injection hh with _ hh _
  exact ht hh
def AudI (base E L N:Nat) (l:List Tk) (ks:List Int) (m0:Int) (s0:Pt) (i:Nat) (W:World):Prop :=
 ∃ l' s',HanS base E L N l' s' W /\ RepG l' s' (GF (runS l (ks.take i) m0 (s0,none4)).2)
theorem aud_does {base E L N n0:Nat} {l:List Tk} {ks:List Int} {m0:Int} {s0:Pt} (hm:0 <= m0) (hks:m0 + (ks.length:Int) <= 40320) (hE:n0 <= E) (hL:n0 <= L) (hb:n0 <= base) :
  Does 52 #[.pointer (some ⟨N,0,none⟩)] n0 base (AudI base E L N l ks m0 s0) l ks m0 s0 where
 bel i W W' h hW:=by
  obtain ⟨l',s',h1,h2⟩:=h;exact ⟨l',s',h1.below hW,h2⟩
 upd i W W' q t old cs h hq ht hB u:=by
  obtain ⟨l',s',h1,h2⟩:=h;obtain ⟨v,hv,ho⟩:=h1.ns.bL;have hne:t ≠ 52:=by rcases ht with rfl | rfl | rfl <;> decide
  exact ⟨l',s',⟨⟨u.bx h1.ns.bE (by have:=h1.ns.eb; omega),⟨v,u.bx hv (by have:=h1.ns.lb; omega),ho.held hB hne u⟩,h1.ns.eb,h1.ns.lb,h1.ns.ne,by rw [u.size]; exact h1.ns.sz⟩,u.bx h1.bN (by have:=h1.nb; omega),h1.nb,h1.nE,h1.nL⟩,h2⟩
 step i n k s F s' f W h hn hi hk hs hp hr:=by
  obtain ⟨l',st,h1,h2⟩:=h;rw [hs] at h2;have hlt:=runK_lt Zo hr;refine (hand20_any base E L N l' st (GF F) k (m0 + i) (m0 + i + n) s s' f W h1 h2 (fun j hj=>by have:=hlt j hj; omega)).mono ?_;rintro e W' ⟨rfl,⟨l2,s2,h3,h4⟩,hk2⟩;refine ⟨rfl,⟨l2,s2,h3,?_⟩,?_⟩
  ·rw [run_note Zo hm hk hs hr,<- stepG_comb]
   exact h4
  ·obtain ⟨v,hv,_⟩:=h1.ns.bL
   exact hk2.keep h1.ns.bE hv (by rintro (h | h | h) <;> exact absurd h Zd) (by rintro (h | h | h) <;> exact absurd h Zd) (by rintro (h | h | h) <;> exact absurd h Zd) hb hE hL (Nat.le_trans hb h1.ns.sz)
def fit (n:Int):Int × Int:=if -9223372036854775808 <= n /\ n <= 9223372036854775807 then (n,0) else (0,19)
theorem fit_in (n:Int) (h0:-9223372036854775808 <= n) (h1:n <= 9223372036854775807):fit n = (n,0):=by
 unfold fit; rw [if_pos ⟨h0,h1⟩]
theorem fit_hi (n:Int) (h:9223372036854775807 < n):fit n = (0,19):=by
 unfold fit; rw [if_neg Zo]
theorem fit_lo (n:Int) (h:n < -9223372036854775808):fit n = (0,19):=by
 unfold fit; rw [if_neg Zo]
theorem fit_out (n:Int) (h:¬ (-9223372036854775808 <= n /\ n <= 9223372036854775807)):fit n = (0,19):=by
 unfold fit; rw [if_neg h]
theorem fit_bd (n:Int):-9223372036854775808 <= (fit n).1 /\ (fit n).1 <= 9223372036854775807:=by
 unfold fit; split <;> constructor <;> (try simp only []) <;> omega
theorem add_wrap_hi (a b:Int) (ha:a <= 9223372036854775807) (hb:b <= 9223372036854775807) (h:9223372036854775807 < a + b):wrap64 (a + b) < a /\ wrap64 (a + b) < b:=by
 unfold wrap64; omega
theorem add_wrap_lo (a b:Int) (ha:-9223372036854775808 <= a) (hb:-9223372036854775808 <= b) (h:a + b < -9223372036854775808):a < wrap64 (a + b) /\ b < wrap64 (a + b):=by
 unfold wrap64; omega
theorem sub_wrap_hi (a b:Int) (ha:a <= 9223372036854775807) (hb:-9223372036854775808 <= b) (h:9223372036854775807 < a - b):wrap64 (a - b) < a:=by
 unfold wrap64; omega
theorem sub_wrap_lo (a b:Int) (ha:-9223372036854775808 <= a) (hb:b <= 9223372036854775807) (h:a - b < -9223372036854775808):a < wrap64 (a - b):=by
 unfold wrap64; omega
def sums (acc:Int):List Int -> Int × Int
 | []=>(acc,0)
 | z :: r=>if -9223372036854775808 <= acc + z /\ acc + z <= 9223372036854775807 then sums (acc + z) r else (0,19)
theorem sums_nil (acc:Int):sums acc [] = (acc,0):=rfl
theorem sums_in (acc z:Int) (r:List Int) (h:-9223372036854775808 <= acc + z /\ acc + z <= 9223372036854775807):sums acc (z :: r) = sums (acc + z) r:=by
 rw [sums,if_pos h]
theorem sums_out (acc z:Int) (r:List Int) (h:¬ (-9223372036854775808 <= acc + z /\ acc + z <= 9223372036854775807)):sums acc (z :: r) = (0,19):=by
 rw [sums,if_neg h]
theorem sums_two (a b:Int) (ha:-9223372036854775808 <= a /\ a <= 9223372036854775807):sums 0 [a,b] = fit (a + b):=by
 rw [sums_in _ _ _ Zo,Int.zero_add];by_cases h:-9223372036854775808 <= a + b /\ a + b <= 9223372036854775807
 ·rw [sums_in _ _ _ h,sums_nil,fit_in _ h.1 h.2]
 ·rw [sums_out _ _ _ h,fit_out _ h]
theorem drop_cons (l:List Int) (k:Nat) (h:k < l.length):l.drop k = l.getD k 0 :: l.drop (k + 1):=by
 rw [List.drop_eq_getElem_cons h]; simp [List.getD,h]
def Few21 (x:Int):Prop:=-1000000 <= x /\ x <= 1000000
instance (x:Int):Decidable (Few21 x):=by unfold Few21; infer_instance
def allF (l:List Int):Bool:=l.all fun x=>decide (Few21 x)
def chkL (l:List Int):Int:=if 2000 < l.length then 12 else if allF l then 0 else 4
theorem chkL_many {l:List Int} (h:2000 < l.length):chkL l = 12:=by unfold chkL; rw [if_pos h]
theorem chkL_wrong {l:List Int} (h:l.length <= 2000) {k:Nat} (hk:k < l.length) (hx:¬ Few21 (l.getD k 0)):chkL l = 4:=by
 unfold chkL;rw [if_neg Zo,if_neg];intro ha;refine hx ?_;have:=List.all_eq_true.1 ha (l.getD k 0) (by simp [List.getD,hk]);exact of_decide_eq_true this
theorem chkL_right {l:List Int} (h:l.length <= 2000) (ha:∀ j,j < l.length -> Few21 (l.getD j 0)):chkL l = 0:=by
 unfold chkL;rw [if_neg Zo,if_pos];refine List.all_eq_true.2 fun x hx=>?_
 obtain ⟨i,hi,rfl⟩:=List.getElem_of_mem hx;have:=ha i hi;simp only [List.getD,List.getElem?_eq_getElem hi,Option.getD_some] at this;exact decide_eq_true this
theorem chkL_ok {l:List Int} (h:chkL l = 0):l.length <= 2000 /\ ∀ x ∈ l,Few21 x:=by
 unfold chkL at h;by_cases h1:2000 < l.length
 ·rw [if_pos h1] at h; cases h
 ·rw [if_neg h1] at h
  by_cases h2:allF l = true
  ·exact ⟨by omega,fun x hx=>of_decide_eq_true (List.all_eq_true.1 h2 x hx)⟩
  ·rw [if_neg h2] at h; cases h
theorem chkL_cases (l:List Int):chkL l = 0 ∨ chkL l = 12 ∨ chkL l = 4:=by
 unfold chkL;split
 ·exact .inr (.inl rfl)
 ·split
  ·exact .inl rfl
  ·exact .inr (.inr rfl)
theorem few_getD {l:List Int} (h:∀ x ∈ l,Few21 x) (k:Nat):Few21 (l.getD k 0):=by
 by_cases hk:k < l.length
 ·exact h _ (by simp [List.getD,hk])
 ·have:l.getD k 0 = 0:=by simp [List.getD,List.getElem?_eq_none (Nat.le_of_not_lt hk)]
  rw [this]; unfold Few21; omega
def sm:List Int -> Int
 | []=>0
 | x :: r=>x + sm r
theorem sm_app (a b:List Int):sm (a ++ b) = sm a + sm b:=by
 induction a with
 | nil=>simp [sm]
 | cons x r ih=>rw [List.cons_append,sm,sm,ih]; omega
theorem sm_one (x:Int):sm [x] = x:=by simp [sm]
theorem take_more21 (l:List Int) {k:Nat} (h:k < l.length):l.take (k + 1) = l.take k ++ [l.getD k 0]:=by
 rw [List.take_add_one,List.getElem?_eq_getElem h];simp [List.getD,h]
theorem sm_take (l:List Int) {k:Nat} (h:k < l.length):sm (l.take (k + 1)) = sm (l.take k) + l.getD k 0:=by
 rw [take_more21 l h,sm_app,sm_one]
theorem sm_nonneg:∀ {l:List Int},(∀ x ∈ l,0 <= x) -> 0 <= sm l
 | [],_=>by simp [sm]
 | x :: r,h=>by
  have h1:=sm_nonneg (l:=r) fun y hy=>h y (List.mem_cons_of_mem _ hy)
  have h2:=h x (List.mem_cons_self ..);rw [sm]; omega
theorem sm_nonpos:∀ {l:List Int},(∀ x ∈ l,x <= 0) -> sm l <= 0
 | [],_=>by simp [sm]
 | x :: r,h=>by
  have h1:=sm_nonpos (l:=r) fun y hy=>h y (List.mem_cons_of_mem _ hy)
  have h2:=h x (List.mem_cons_self ..);rw [sm]; omega
theorem sm_bd:∀ {l:List Int},(∀ x ∈ l,Few21 x) -> -(1000000 * (l.length:Int)) <= sm l /\ sm l <= 1000000 * (l.length:Int)
 | [],_=>by simp [sm]
 | x :: r,h=>by
  have h1:=sm_bd (l:=r) fun y hy=>h y (List.mem_cons_of_mem _ hy)
  have h2:=h x (List.mem_cons_self ..);unfold Few21 at h2;rw [sm,List.length_cons]; omega
theorem sm_perm {a b:List Int} (h:a.Perm b):sm a = sm b:=by
 induction h with
 | nil=>rfl
 | cons x _ ih=>rw [sm,sm,ih]
 | swap x y l=>simp only [sm]; omega
 | trans _ _ h1 h2=>exact h1.trans h2
def bro (l:List Int):List Int:=l.filter fun x=>decide (0 < x)
def oth (l:List Int):List Int:=l.filter fun x=>!decide (0 < x)
def easeV (l:List Int):List Int:=bro l ++ oth l
theorem bro_more (l:List Int) {k:Nat} (h:k < l.length) (hx:0 < l.getD k 0):bro (l.take (k + 1)) = bro (l.take k) ++ [l.getD k 0] /\ oth (l.take (k + 1)) = oth (l.take k):=by
 rw [take_more21 l h];unfold bro oth;rw [List.filter_append,List.filter_append,List.filter_cons_of_pos (by simpa using hx),List.filter_cons_of_neg (by simpa using hx)];exact ⟨rfl,by simp⟩
theorem oth_more (l:List Int) {k:Nat} (h:k < l.length) (hx:¬ 0 < l.getD k 0):bro (l.take (k + 1)) = bro (l.take k) /\ oth (l.take (k + 1)) = oth (l.take k) ++ [l.getD k 0]:=by
 rw [take_more21 l h];unfold bro oth;rw [List.filter_append,List.filter_append,List.filter_cons_of_neg (by simpa using hx),List.filter_cons_of_pos (by simpa using hx)];exact ⟨by simp,rfl⟩
theorem bro_len (l:List Int):(bro l).length <= l.length:=List.length_filter_le ..
theorem oth_len (l:List Int):(oth l).length <= l.length:=List.length_filter_le ..
theorem take_len (l:List Int) (k:Nat):(l.take k).length <= k:=by rw [List.length_take]; exact Nat.min_le_left ..
theorem bro_pos {l:List Int} {x:Int} (h:x ∈ bro l):0 < x /\ x ∈ l:=by
 have:=List.mem_filter.1 h;exact ⟨of_decide_eq_true this.2,this.1⟩
theorem oth_neg {l:List Int} {x:Int} (h:x ∈ oth l):x <= 0 /\ x ∈ l:=by
 have:=List.mem_filter.1 h;have h2:=this.2;simp at h2;exact ⟨h2,this.1⟩
theorem ease_perm (l:List Int):(easeV l).Perm l:=List.filter_append_perm _ l
def upL (l:List Int):Int:=sm (bro l)
def legAt (l:List Int) (k:Nat):Int:=upL l - sm (l.take k)
def legsV (l:List Int):List Int:=(List.range (l.length + 1)).map (legAt l)
def legsTo (l:List Int) (k:Nat):List Int:=(List.range k).map (legAt l)
theorem legsTo_more (l:List Int) (k:Nat):legsTo l (k + 1) = legsTo l k ++ [legAt l k]:=by
 unfold legsTo;rw [List.range_succ,List.map_append]; rfl
theorem legsTo_len (l:List Int) (k:Nat):(legsTo l k).length = k:=by unfold legsTo; rw [List.length_map,List.length_range]
theorem legsTo_all (l:List Int):legsTo l (l.length + 1) = legsV l:=rfl
theorem legsV_len (l:List Int):(legsV l).length = l.length + 1:=legsTo_len l _
theorem legsV_at (l:List Int) {k:Nat} (h:k <= l.length):(legsV l).getD k 0 = legAt l k:=by
 unfold legsV;simp [List.getD,show k < l.length + 1 by omega]
theorem legAt_zero (l:List Int):legAt l 0 = upL l:=by unfold legAt; simp [sm]
theorem legAt_more (l:List Int) {k:Nat} (h:k < l.length):legAt l (k + 1) = legAt l k - l.getD k 0:=by
 unfold legAt;rw [sm_take l h]; omega
theorem legAt_end (l:List Int):legAt l l.length = upL l - sm l:=by unfold legAt; rw [List.take_length]
theorem upL_app (a b:List Int):upL (a ++ b) = upL a + upL b:=by unfold upL bro; rw [List.filter_append,sm_app]
theorem upL_nonneg (l:List Int):0 <= upL l:=sm_nonneg fun x hx=>by have:=(bro_pos hx).1; omega
theorem upL_ge (l:List Int):sm l <= upL l:=by
 have h1:=sm_perm (ease_perm l);unfold easeV at h1;rw [sm_app] at h1;have h2:sm (oth l) <= 0:=sm_nonpos fun x hx=>(oth_neg hx).1
 unfold upL;omega
theorem upL_le {l:List Int} (h:∀ x ∈ l,Few21 x):upL l <= 1000000 * (l.length:Int):=by
 have:=(sm_bd (l:=bro l) fun x hx=>h x (bro_pos hx).2).2;have:=bro_len l;unfold upL;omega
theorem upL_perm {a b:List Int} (h:a.Perm b):upL a = upL b:=sm_perm (h.filter _)
theorem upL_take (l:List Int) {k:Nat} (h:k < l.length):upL (l.take (k + 1)) = upL (l.take k) + max (l.getD k 0) 0:=by
 rw [take_more21 l h,upL_app];congr 1;unfold upL bro;by_cases hx:0 < l.getD k 0
 ·rw [List.filter_cons_of_pos (by simpa using hx)]
  simp only [List.filter_nil,sm]; omega
 ·rw [List.filter_cons_of_neg (by simpa using hx)]
  simp only [List.filter_nil,sm]; omega
theorem take_few {l:List Int} (h:∀ x ∈ l,Few21 x) (k:Nat):∀ x ∈ l.take k,Few21 x:=fun x hx=>h x (List.mem_of_mem_take hx)
theorem legAt_nonneg (l:List Int) (k:Nat):0 <= legAt l k:=by
 have h1:=upL_app (l.take k) (l.drop k);rw [List.take_append_drop] at h1;have h2:=upL_ge (l.take k);have h3:=upL_nonneg (l.drop k);unfold legAt;omega
theorem legAt_le {l:List Int} (h:∀ x ∈ l,Few21 x) (hl:l.length <= 2000) (k:Nat):legAt l k <= 4000000000:=by
 have h1:=upL_le h;have h2:=(sm_bd (take_few h k)).1;have h3:(l.take k).length <= l.length:=by rw [List.length_take]; exact Nat.min_le_right ..
 unfold legAt;omega
theorem sums_up:∀ (b:List Int) (acc:Int),0 <= acc -> (∀ x ∈ b,0 < x /\ Few21 x) -> acc + 1000000 * (b.length:Int) <= 9223372036854775807 -> sums acc b = (acc + sm b,0)
 | [],acc,_,_,_=>by rw [sums_nil,sm]; simp
 | x :: r,acc,h0,h,h1=>by
  have hx:=h x (List.mem_cons_self ..);unfold Few21 at hx;rw [List.length_cons] at h1;rw [sums_in _ _ _ Zo,sums_up r (acc + x) Zo (fun y hy=>h y (List.mem_cons_of_mem _ hy)) Zo,sm];congr 1;omega
theorem sums_bro {l:List Int} (h:∀ x ∈ l,Few21 x) (hl:l.length <= 2000):sums 0 (bro l) = (upL l,0):=by
 have hb:=bro_len l;rw [sums_up (bro l) 0 (Int.le_refl _) (fun x hx=>⟨(bro_pos hx).1,h x (bro_pos hx).2⟩) Zo];unfold upL;rw [Int.zero_add]
def rv (leg j:Nat) (x:Int):Int:=if 0 < x /\ leg <= j then x else if x < 0 /\ j < leg then -x else 0
def refN (l:List Int) (leg:Nat):Nat -> Int
 | 0=>0
 | i + 1=>refN l leg i + rv leg i (l.getD i 0)
theorem refN_is (l:List Int) (leg:Nat):∀ i,i <= l.length -> refN l leg i = upL (l.take i) - sm (l.take (min leg i))
 | 0,_=>by simp [refN,upL,bro,sm]
 | i + 1,h=>by
  have ih:=refN_is l leg i Zo;have hu:=upL_take l (k:=i) Zo;rw [refN,ih,hu];unfold rv;by_cases hlt:i < leg
  ·rw [Nat.min_eq_right Zo,Nat.min_eq_right Zo,sm_take l Zo,if_neg Zo]
   by_cases hx:l.getD i 0 < 0
   ·rw [if_pos ⟨hx,hlt⟩]; omega
   ·rw [if_neg Zo]; omega
  ·rw [Nat.min_eq_left Zo,Nat.min_eq_left Zo]
   by_cases hx:0 < l.getD i 0
   ·rw [if_pos ⟨hx,by omega⟩]; omega
   ·rw [if_neg Zo,if_neg Zo]; omega
theorem refN_all (l:List Int) {leg:Nat} (h:leg <= l.length):refN l leg l.length = legAt l leg:=by
 rw [refN_is l leg l.length Zl,Nat.min_eq_left h,List.take_length]; rfl
theorem refN_bd {l:List Int} (h:∀ x ∈ l,Few21 x) (leg:Nat):∀ i,0 <= refN l leg i /\ refN l leg i <= 1000000 * (i:Int)
 | 0=>by simp [refN]
 | i + 1=>by
  have ih:=refN_bd h leg i;have hx:=few_getD h i;unfold Few21 at hx;rw [refN];unfold rv;split
  ·omega
  ·split
   ·omega
   ·omega
def pk (b:List Int):Nat -> Int
 | 0=>0
 | k + 1=>max (pk b k) (b.getD k 0)
def mxL (b:List Int):Nat -> Int
 | 0=>b.getD 0 0
 | k + 1=>max (mxL b k) (b.getD k 0)
theorem mxL_one (b:List Int):mxL b 1 = b.getD 0 0:=by simp [mxL]
theorem mxL_pk {b:List Int} (h:0 <= b.getD 0 0):∀ k,mxL b (k + 1) = pk b (k + 1)
 | 0=>by rw [mxL_one,pk,pk]; omega
 | k + 1=>by
  show max (mxL b (k + 1)) _ = max (pk b (k + 1)) _
  rw [mxL_pk h k]
theorem pk_ge {b:List Int}:∀ (k:Nat),∀ j,j < k -> b.getD j 0 <= pk b k
 | 0,j,h=>by omega
 | k + 1,j,h=>by
  rw [pk];by_cases e:j = k
  ·subst e; omega
  ·have:=pk_ge (b:=b) k j Zo; omega
theorem pk_le {b:List Int} {m:Int} (hm:0 <= m):∀ (k:Nat),(∀ j,j < k -> b.getD j 0 <= m) -> pk b k <= m
 | 0,_=>hm
 | k + 1,h=>by
  rw [pk];have h1:=pk_le (b:=b) hm k fun j hj=>h j Zo
  have h2:=h k Zo;omega
def peakV (l:List Int):Int:=pk (legsV l) (l.length + 1)
theorem peakV_mx (l:List Int):mxL (legsV l) (l.length + 1) = peakV l:=mxL_pk (by rw [legsV_at l (Nat.zero_le _)]; exact legAt_nonneg l 0) _
theorem peakV_ge (l:List Int):upL l <= peakV l /\ upL l - sm l <= peakV l:=by
 have h1:=pk_ge (b:=legsV l) (l.length + 1) 0 Zo;have h2:=pk_ge (b:=legsV l) (l.length + 1) l.length Zo;rw [legsV_at l (Nat.zero_le _),legAt_zero] at h1;rw [legsV_at l Zl,legAt_end] at h2;exact ⟨h1,h2⟩
theorem ease_leg (l:List Int) (k:Nat):legAt (easeV l) k <= upL l ∨ legAt (easeV l) k <= upL l - sm l:=by
 have hu:=upL_perm (ease_perm l);have hs:=sm_perm (ease_perm l);unfold legAt;rw [hu];by_cases hk:k <= (bro l).length
 ·left
  have:(easeV l).take k = (bro l).take k:=by unfold easeV; rw [List.take_append_of_le_length hk]
  rw [this];have:=sm_nonneg (l:=(bro l).take k) fun x hx=>by have:=(bro_pos (List.mem_of_mem_take hx)).1; omega
  omega
 ·right
  have h1:sm ((easeV l).drop k) <= 0:=by
   refine sm_nonpos fun x hx=>?_
   unfold easeV at hx;rw [List.drop_append,List.drop_eq_nil_of_le Zo,List.nil_append] at hx;exact (oth_neg (List.mem_of_mem_drop hx)).1
  have h2:=sm_app ((easeV l).take k) ((easeV l).drop k);rw [List.take_append_drop] at h2;omega
theorem ease_least {l m:List Int} (h:m.Perm l):peakV (easeV l) <= peakV m:=by
 obtain ⟨h1,h2⟩:=peakV_ge m;rw [upL_perm h] at h1 h2;rw [sm_perm h] at h2;have h0:=upL_nonneg l;refine pk_le Zo _ fun j hj=>?_
 rw [legsV_at _ Zo]
 rcases ease_leg l j with h | h <;> omega
theorem chkL_perm {a b:List Int} (h:a.Perm b):chkL a = chkL b:=by
 unfold chkL;rw [h.length_eq]
 have:allF a = allF b:=by
  unfold allF;rw [Bool.eq_iff_iff];simp only [List.all_eq_true];exact ⟨fun hh x hx=>hh x (h.mem_iff.2 hx),fun hh x hx=>hh x (h.mem_iff.1 hx)⟩
 rw [this]
def legsE (l:List Int):List Int:=if chkL l = 0 then legsV l else []
def peakE (l:List Int):Int:=if chkL l = 0 then peakV l else 0
def fitsE (room:Int) (l:List Int):Bool:=decide (chkL l = 0 /\ peakV l <= room)
theorem legsE_ok {l:List Int} (h:chkL l = 0):legsE l = legsV l:=if_pos h
theorem legsE_no {l:List Int} (h:chkL l ≠ 0):legsE l = []:=if_neg h
theorem peakE_ok {l:List Int} (h:chkL l = 0):peakE l = peakV l:=if_pos h
theorem peakE_no {l:List Int} (h:chkL l ≠ 0):peakE l = 0:=if_neg h
structure Cse where
 x:Nat -> Int
 A:Option Addr
 n:Nat
 c:Nat
 l:List Rc
 A2:Option Addr
 n2:Nat
 c2:Nat
 l2:List Rc
 K:Option Addr
 nk:Nat
 ck:Nat
 k:List Tk
 i:Int
 a:Int
 b:Int
 L:Option Addr
 nl:Nat
 cl:Nat
 ns:List Int
 room:Int
def Cse.cs (C:Cse):Array Value:=((bk C.x).toList ++ ([.slice C.A C.n C.c,.slice C.A2 C.n2 C.c2,.slice C.K C.nk C.ck,.int .i64 C.i,.int .i64 C.a,.int .i64 C.b,.slice C.L C.nl C.cl,.int .i64 C.room]:List Value)).toArray
theorem Cse.size (C:Cse):C.cs.size = 27:=rfl
theorem Cse.one (C:Cse):C.cs.all (·.oneCell') = true:=by kernel_rfl
structure Cse.Rd (C:Cse) (w:World):Prop where
 past:RdR w C.A C.l
 plan:RdR w C.A2 C.l2
 task:RdK w C.K C.k
 load:RdN w C.L C.ns
theorem Cse.Rd.below {C:Cse} {w w':World} (h:C.Rd w) (hb:Below w.heap.size w w'):C.Rd w':=⟨h.past.below hb,h.plan.below hb,h.task.below hb,h.load.below hb⟩
structure Cse.Sh (C:Cse):Prop where
 n:C.l.length = C.n
 z:C.A = none -> C.c = 0
 n2:C.l2.length = C.n2
 z2:C.A2 = none -> C.c2 = 0
 nk:C.k.length = C.nk
 ck:C.nk <= C.ck
 zk:C.K = none -> C.ck = 0
 a:-9223372036854775808 <= C.a /\ C.a <= 9223372036854775807
 b:-9223372036854775808 <= C.b /\ C.b <= 9223372036854775807
 nl:C.ns.length = C.nl
structure Cse.Ok (C:Cse):Prop extends Cse.Sh C where
 few:Few C.k
 hn:C.n <= 60
 hn2:C.n2 <= 60
theorem Cse.rdi {C:Cse} {W:World} {g:Nat} {t:TypeId} (h:Bx W g t C.cs):RdI W g 0 C.x:=by
 refine ⟨h.lt,fun i hi=>h.cell ?_⟩;unfold Cse.cs;rw [Nat.zero_add,List.getElem?_toArray,List.getElem?_append_left (by show i < (bk C.x).size; rw [bk_size]; exact hi),Array.getElem?_toList];exact bk_at C.x i hi
theorem Cse.spot {C:Cse} {W:World} {g:Nat} {t:TypeId} (h:Bx W g t C.cs):W.rangeAt g 22 [.int .i64 C.i,.int .i64 C.a,.int .i64 C.b]:=fun j v hj=>by
 rw [cell_of_row W g (22 + j) _ _ (0,0) h]
 match j,hj with
 | 0,hj=>simp at hj; subst hj; rfl
 | 1,hj=>simp at hj; subst hj; rfl
 | 2,hj=>simp at hj; subst hj; rfl
def Cse.whole (C:Cse):List Rc:=C.l ++ C.l2
theorem Cse.whole_len {C:Cse} (h:C.Ok):C.whole.length = C.n + C.n2 /\ C.n + C.n2 <= 120:=by
 unfold Cse.whole;rw [List.length_append,h.n,h.n2];exact ⟨rfl,by have:=h.hn; have:=h.hn2; omega⟩
open Classical in
noncomputable def Cse.err (C:Cse):Int :=
 if May C.x then (if checkT C.k = 0 then (if Fits C.k (C.i,C.a,C.b) then (if (checkV C.whole).2 = 0 then (if beg C.whole = 0 then chkL C.ns else 5) else (checkV C.whole).2) else 1) else checkT C.k) else 14
def Cse.ldF (C:Cse):List Rc:=if fitsE C.room C.ns then [] else [(15,beg C.l2,beg C.l2 + 1)]
noncomputable def Cse.rules (C:Cse):List Rc:=(auditV C.x C.whole).1
def Cse.tasks (C:Cse):List Rc:=(audV C.k (C.i,C.a,C.b) C.l2).2.1
noncomputable def Cse.found (C:Cse):List Rc:=if C.err = 0 then C.rules ++ C.tasks ++ C.ldF else []
theorem Cse.no_book {C:Cse} (h:¬ May C.x):C.err = 14:=if_neg h
theorem Cse.no_task {C:Cse} (h:May C.x) {e:Int} (h1:checkT C.k = e) (he:e ≠ 0):C.err = e:=by unfold Cse.err; rw [if_pos h,h1,if_neg he]
theorem Cse.no_spot {C:Cse} (h:May C.x) (h1:checkT C.k = 0) (h2:¬ Fits C.k (C.i,C.a,C.b)):C.err = 1:=by unfold Cse.err; rw [if_pos h,if_pos h1,if_neg h2]
theorem Cse.no_rec {C:Cse} (h:May C.x) (h1:checkT C.k = 0) (h2:Fits C.k (C.i,C.a,C.b)) {e:Int} (h3:(checkV C.whole).2 = e) (he:e ≠ 0):C.err = e:=by unfold Cse.err; rw [if_pos h,if_pos h1,if_pos h2,h3,if_neg he]
theorem Cse.no_gap {C:Cse} (h:May C.x) (h1:checkT C.k = 0) (h2:Fits C.k (C.i,C.a,C.b)) (h3:(checkV C.whole).2 = 0) (h4:beg C.whole ≠ 0):C.err = 5:=by unfold Cse.err; rw [if_pos h,if_pos h1,if_pos h2,if_pos h3,if_neg h4]
theorem Cse.go_on {C:Cse} (h:May C.x) (h1:checkT C.k = 0) (h2:Fits C.k (C.i,C.a,C.b)) (h3:(checkV C.whole).2 = 0) (h4:beg C.whole = 0):C.err = chkL C.ns:=by unfold Cse.err; rw [if_pos h,if_pos h1,if_pos h2,if_pos h3,if_pos h4]
theorem Cse.right {C:Cse} (h:C.err = 0):May C.x /\ checkT C.k = 0 /\ Fits C.k (C.i,C.a,C.b) /\ Tl 0 C.whole /\ chkL C.ns = 0:=by
 unfold Cse.err at h;split at h
 ·rename_i h0
  split at h
  ·rename_i h1
   split at h
   ·rename_i h2
    split at h
    ·rename_i h3
     split at h
     ·rename_i h4
      have:=check_tl h3;rw [h4] at this;exact ⟨h0,h1,h2,this,h⟩
     ·cases h
    ·rename_i hc; exact absurd h hc
   ·cases h
  ·rename_i hc; exact absurd h hc
 ·cases h
theorem tl_right {l2:List Rc}:∀ {l:List Rc} {e:Int},Tl e (l ++ l2) -> ∃ e',Tl e' l2 /\ (l2 ≠ [] -> e <= e' /\ beg l2 = e')
 | [],e,h=>⟨e,h,fun hne=>⟨Int.le_refl _,by cases l2 with | nil=>exact absurd rfl hne | cons r l2=>exact h.2.1⟩⟩
 | r :: l,e,h=>by
  obtain ⟨e',h1,h2⟩:=tl_right h.2.2;refine ⟨e',h1,fun hne=>⟨?_,(h2 hne).2⟩⟩;have:=(h2 hne).1;have hr:=h.1.2;have h0:=h.2.1;omega
theorem Cse.plan_tl {C:Cse} (h:Tl 0 C.whole):Tl (beg C.l2) C.l2:=by
 obtain ⟨e',h1,_⟩:=tl_right h;exact h1.from_
theorem Cse.spotE {C:Cse} (h:C.err = 0):checkE C.k (C.i,C.a,C.b) C.l2 = 0:=by
 obtain ⟨_,h1,h2,h3,_⟩:=C.right h;unfold checkE;rw [spot_yes h1 h2,if_pos rfl];have:=tl_check (Cse.plan_tl h3);rw [this]
theorem outG_clause (G:Gs):∀ n,(outG G n).Pairwise fun a b=>a.1 < b.1
 | 0=>List.Pairwise.nil
 | n + 1=>by
  unfold outG;rw [List.pairwise_append];refine ⟨outG_clause G n,?_,fun x hx y hy=>?_⟩
  ·cases G n with
   | none=>exact List.Pairwise.nil
   | some v=>exact List.pairwise_singleton _ _
  ·obtain ⟨c,hc,_,h2,_⟩:=(outG_mem G n x).1 hx
   cases hG:G n with
   | none=>rw [hG] at hy; cases hy
   | some v =>
    rw [hG] at hy;rw [List.mem_singleton] at hy;subst hy;rw [h2];simp only;omega
theorem Cse.sorted (C:Cse):(C.rules ++ C.tasks ++ C.ldF).Pairwise fun a b=>a.1 < b.1:=by
 have hr:C.rules.Pairwise (fun a b=>a.1 < b.1) /\ ∀ r ∈ C.rules,r.1 < 10:=by
  unfold Cse.rules auditV;split
  ·exact ⟨listF_sorted _,fun r hr=>by obtain ⟨c,hc,_,h⟩:=(listF_mem _ r).1 hr; omega⟩
  ·exact ⟨List.Pairwise.nil,fun r hr=>by cases hr⟩
 have ht:C.tasks.Pairwise (fun a b=>a.1 < b.1) /\ ∀ r ∈ C.tasks,10 <= r.1 /\ r.1 < 15:=by
  unfold Cse.tasks audV;split
  ·refine ⟨?_,fun r hr=>by obtain ⟨c,hc,_,h,_⟩:=(outG_mem _ _ r).1 hr; omega⟩
   exact outG_clause _ 5
  ·exact ⟨List.Pairwise.nil,fun r hr=>by cases hr⟩
 rw [List.pairwise_append,List.pairwise_append];refine ⟨⟨hr.1,ht.1,fun a ha b hb=>?_⟩,?_,fun a ha b hb=>?_⟩
 ·have:=hr.2 a ha; have:=(ht.2 b hb).1; omega
 ·unfold Cse.ldF; split
  ·exact List.Pairwise.nil
  ·exact List.pairwise_singleton _ _
 ·have hb:b.1 = 15:=by
   unfold Cse.ldF at hb;split at hb
   ·cases hb
   ·rw [List.mem_singleton] at hb; rw [hb]
  rcases List.mem_append.1 ha with h | h
  ·have:=hr.2 a h; omega
  ·have:=(ht.2 a h).2; omega
theorem Cse.setF {C:Cse} {r:List Rc} (h:SetF r (C.rules ++ C.tasks ++ C.ldF)):r = C.rules ++ C.tasks ++ C.ldF :=
 setF_unique h ⟨C.sorted.imp fun {_ _} h=>.inl h,fun _=>Iff.rfl⟩
theorem Cse.rules_len (C:Cse):C.rules.length <= 10:=by
 unfold Cse.rules auditV;split
 ·exact listF_len _
 ·simp
theorem Cse.tasks_len (C:Cse):C.tasks.length <= 5:=by
 unfold Cse.tasks audV;split
 ·exact outG_len _ 5
 ·simp
theorem Cse.ld_len (C:Cse):C.ldF.length <= 1:=by unfold Cse.ldF; split <;> simp
theorem Cse.found_len (C:Cse):C.found.length <= 16:=by
 unfold Cse.found;split
 ·have h1:=C.rules_len; have h2:=C.tasks_len; have h3:=C.ld_len
  rw [List.length_append,List.length_append]; omega
 ·simp
end Go.Proofs.YtiamnbddbmgffaaGreatDoor
namespace Go.Proofs.YtiamnbddbmgffaaGreatDoor
open Go.ChangeShapes Go.WideShapes Go.ChangeAt Go.RowKit Go.Joins Go.Deep
set_option linter.unusedVariables false
set_option maxRecDepth 100000
theorem choose_nat {P:Nat -> Int -> Prop} {n:Nat} (h:∀ i,i < n -> ∃ v,P i v):∃ x:Nat -> Int,∀ i,i < n -> P i (x i):=by
 classical
 refine ⟨fun i=>if hi:i < n then (h i hi).choose else 0,fun i hi=>?_⟩;simp only [dif_pos hi];exact (h i hi).choose_spec
theorem cells_book:Tryz.prog.cellsOf 23 = 19:=by kernel_rfl
theorem fields_ok:∃ fs,Tryz.prog.underlying 23 = some (.struct fs) /\ oneCellFields Tryz.prog fs = true /\ fs.size = 19 /\ ∀ (i:Nat) (f:Field),fs[i]? = some f -> f.type = 3:=by
 refine ⟨_,Tryz.underlying23,by kernel_rfl,by kernel_rfl,fun i f hf=>?_⟩;have:∀ g ∈ (Tryz.prog.fieldsOf 23).toList,g.type = 3:=of_decide_eq_true Zk;exact this f (by have:=Array.mem_of_getElem? hf; simpa [Program.fieldsOf,Tryz.underlying23] using this)
theorem cells_rec:Tryz.prog.cellsOf 50 = 3:=by kernel_rfl
theorem cells_int:Tryz.prog.cellsOf 3 = 1:=by kernel_rfl
set_option maxRecDepth 20000 in
theorem read_rec {H:Type} {enc:TypeId × Value -> H} {w:World} {base:Nat} {spare:Nat -> Bool} {held:Bool} {fuel:Nat} {cs:List Value} {x:DataW H × List MemPlace}
  (h:DataW.trod enc Tryz.prog w base spare held fuel 50 cs = some x):∃ r:Rc,cs = [.int .i64 r.1,.int .i64 r.2.1,.int .i64 r.2.2]:=by
 obtain ⟨ys,n,_,_,hl,hyl,hf⟩:=DataW.trod_struct Tryz.underlying50 h;rw [cells_rec] at hl
 match cs,hl with
 | [c0,c1,c2],_ =>
  have hyl3:ys.length = 3:=hyl
  match ys,hyl3 with
  | [y0,y1,y2],_ =>
   obtain ⟨a,ha,_,_⟩:=DataW.trod_int Tryz.underlying3 (hf 0 _ rfl);obtain ⟨b,hb,_,_⟩:=DataW.trod_int Tryz.underlying3 (hf 1 _ rfl);obtain ⟨c,hc,_,_⟩:=DataW.trod_int Tryz.underlying3 (hf 2 _ rfl);simp [cells_int] at ha hb hc;exact ⟨(a,b,c),by rw [ha,hb,hc]⟩
theorem cells_span19:Tryz.prog.cellsOf 121 = 2:=by kernel_rfl
theorem cells_task19:Tryz.prog.cellsOf 77 = 3:=by kernel_rfl
theorem cells_spot19:Tryz.prog.cellsOf 27 = 3:=by kernel_rfl
theorem cells_int19:Tryz.prog.cellsOf 3 = 1:=by kernel_rfl
theorem cells_open19:Tryz.prog.cellsOf 75 = 1:=by kernel_rfl
theorem read_spans19 {H:Type} {enc:TypeId × Value -> H} {w:World} {base:Nat} {spare:Nat -> Bool} {held:Bool} {fuel:Nat} {cs:List Value} {x:DataW H × List MemPlace}
  (hf:DataW.trod enc Tryz.prog w base spare held fuel 75 cs = some x) :
  ∃ (A:Option Addr) (c:Nat) (l:List Sp),cs = [.slice A l.length c] /\ RdS w A l:=by
 rcases open_slice_pairs Tryz.underlying75 Tryz.underlying121 cells_span19 rfl rfl Zk Zk hf with ⟨hcs,_⟩ | ⟨a,len,cap,m,n,V0,V1,D0,D1,P0,P1,hcs,_,hl,_,hm,_,hx⟩
 ·exact ⟨none,0,[],hcs,RdS.nil _ _⟩
 ·have hlm:len <= m:=by rw [hm]; split <;> omega
  have hz:∀ i,i < len -> ∃ s:Sp,w.cell? (a.add (i * 2)) = some (.int .i64 s.1) /\ w.cell? (a.add (i * 2 + 1)) = some (.int .i64 s.2):=by
   intro i hi;obtain ⟨h0,h1,t0,t1⟩:=hx i Zo;obtain ⟨x,e0,_,wx⟩:=DataW.trod_int Tryz.underlying3 t0;obtain ⟨y,e1,_,wy⟩:=DataW.trod_int Tryz.underlying3 t1;simp at e0 e1;rw [e0] at h0;rw [e1] at h1;exact ⟨(x,y),h0,h1⟩
  obtain ⟨f,hF⟩:=choose_lt hz;have hlen:((List.range len).map f).length = len:=by simp
  refine ⟨some a,cap,(List.range len).map f,by rw [hlen]; exact hcs,fun hne=>?_⟩;obtain ⟨b,off,spot⟩:=a
  have h0:0 < len:=by
   rcases Nat.eq_zero_or_pos len with h | h
   ·subst h; exact absurd rfl hne
   ·exact h
  have hspot:spot = none:=by simpa [Addr.add] using World.cell?_spot (hF 0 h0).1
  subst hspot;refine ⟨b,off,rfl,?_,fun k hk=>?_⟩
  ·have:=World.block_lt_of_cell? w _ (hF 0 h0).1
   rwa [addr_plain] at this
  ·have hk':k < len:=by simpa using hk
   have hf:=hF k hk';rw [addr_plain,addr_plain] at hf;have e:((List.range len).map f).getD k (0,0) = f k:=by simp [List.getD,hk']
   rw [e,Nat.add_assoc];exact hf
set_option maxRecDepth 20000 in
theorem read_task {H:Type} {enc:TypeId × Value -> H} {w:World} {base:Nat} {spare:Nat -> Bool} {held:Bool} {fuel:Nat} {cs:List Value} {x:DataW H × List MemPlace}
  (h:DataW.trod enc Tryz.prog w base spare held fuel 77 cs = some x) :
  ∃ (t:Tk) (B:Option Addr) (c:Nat),cs = [.int .i64 t.1,.int .i64 t.2.1,.slice B t.2.2.length c] /\ RdS w B t.2.2:=by
 obtain ⟨ys,n,_,_,hl,hyl,hf⟩:=DataW.trod_struct Tryz.underlying77 h;rw [cells_task19] at hl
 match cs,hl with
 | [c0,c1,c2],_ =>
  have hyl3:ys.length = 3:=hyl
  match ys,hyl3 with
  | [y0,y1,y2],_ =>
   obtain ⟨a,ha,_,_⟩:=DataW.trod_int Tryz.underlying3 (hf 0 _ rfl);obtain ⟨b,hb,_,_⟩:=DataW.trod_int Tryz.underlying3 (hf 1 _ rfl);obtain ⟨B,c,o,hc,hr⟩:=read_spans19 (hf 2 _ rfl);simp [cells_int19] at ha hb;simp [cells_open19] at hc;exact ⟨(a,b,o),B,c,by rw [ha,hb,hc],hr⟩
theorem wf_i64 {x:Int} (h:(Lit.int .i64 x).wf = true):-9223372036854775808 <= x /\ x <= 9223372036854775807:=by
 simpa [Lit.wf,IntKind.min,IntKind.max,IntKind.signed,IntKind.bits] using h
theorem read_ints {H:Type} {enc:TypeId × Value -> H} {w:World} {base:Nat} {spare:Nat -> Bool} {held:Bool} {fuel:Nat} {cs:List Value} {x:DataW H × List MemPlace}
  (h:DataW.trod enc Tryz.prog w base spare held fuel 28 cs = some x):∃ (A:Option Addr) (c:Nat) (l:List Int),cs = [.slice A l.length c] /\ RdN w A l /\ (A = none -> c = 0):=by
 rcases open_ints Tryz.underlying28 Tryz.underlying3 Zk h with ⟨hcs,_⟩ | ⟨a,len,cap,zs,hcs,_,hl,_,hzl,_,hc,_⟩
 ·exact ⟨none,0,[],hcs,fun h=>absurd rfl h,fun _=>rfl⟩
 ·have hlm:len <= zs.length:=by rw [hzl]; split <;> omega
  refine ⟨some a,cap,zs.take len,by rw [hcs,List.length_take,Nat.min_eq_left hlm],fun hne=>?_,fun h=>by cases h⟩;obtain ⟨b,off,spot⟩:=a
  have h0:0 < (zs.take len).length:=by
   rcases Nat.eq_zero_or_pos (zs.take len).length with h | h
   ·exact absurd (List.eq_nil_of_length_eq_zero h) hne
   ·exact h
  rw [List.length_take] at h0;have c0:=hc 0 Zo;have hspot:spot = none:=by simpa [Addr.add] using World.cell?_spot c0
  subst hspot;refine ⟨b,off,rfl,?_,fun k hk=>?_⟩
  ·have:=World.block_lt_of_cell? w _ c0
   simpa [Addr.add] using this
  ·rw [List.length_take] at hk
   have:=hc k Zo;have e:(⟨b,off,none⟩:Addr).add k = ⟨b,off + k,none⟩:=Addr.add_mid b off k;rw [e] at this;rw [this];simp only [List.getD_eq_getElem?_getD,List.getElem?_take];rw [if_pos Zo]
end Go.Proofs.YtiamnbddbmgffaaGreatDoor
