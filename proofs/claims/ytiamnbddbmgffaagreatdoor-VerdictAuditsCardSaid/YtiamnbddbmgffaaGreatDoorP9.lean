/- Texts of the proofs of VerdictAudits, VerdictAll, VerdictRising, pressed: WindowMath, ErrandMath, ErrandHeap, ErrandMath2, ErrandLight, RecHeap, ClauseNm, ClauseLeaf, PairsLaid, ClauseLaid, WordHeap. Conditions: as each theorem says. -/
import Derived.Test.YtiamnbddbmgffaaGreatDoorRows
import Derived.Test.YtiamnbddbmgffaaGreatDoorP8
import Derived.Deep.DeepCutAuto
import Derived.BigQuiet
import Derived.Deep.LoopGhost
import Derived.WalkMore
import Derived.ChangeArms
import Derived.ChangeSame
namespace Go.Proofs.YtiamnbddbmgffaaGreatDoor
set_option linter.unusedVariables false
def wrongS (s:Sp):Bool:=!decide (s.1 < s.2)
def rangeS (s:Sp):Bool:=decide (s.1 < 0) || decide (40320 < s.2)
def checkW (l:List Sp):Int :=
 if l.length = 0 then 13 else if 8 < l.length then 12 else if l.any wrongS then 3 else if l.any rangeS then 4 else if rightB l then 0 else 6
theorem any_at {p:Sp -> Bool} {l:List Sp} {k:Nat} (h:k < l.length) (hp:p (l.getD k (0,0)) = true):l.any p = true :=
 List.any_eq_true.2 ⟨_,getD_mem h,hp⟩
theorem any_none {p:Sp -> Bool} {l:List Sp} {k:Nat} (hk:l.length <= k) (h:∀ j,j < k -> p (l.getD j (0,0)) = false):l.any p = false:=by
 rw [List.any_eq_false];intro s hs;obtain ⟨j,hj,e⟩:=List.getElem_of_mem hs;have:=h j Zo;rw [List.getD_eq_getElem?_getD,List.getElem?_eq_getElem hj] at this;simp only [Option.getD_some,e] at this;rw [this]; simp
theorem check_none {l:List Sp} (h:l.length = 0):checkW l = 13:=if_pos h
theorem check_many {l:List Sp} (h:8 < l.length):checkW l = 12:=by unfold checkW; rw [if_neg Zo,if_pos h]
theorem check_wrong {l:List Sp} (h0:l.length ≠ 0) (h:¬ 8 < l.length) (h1:l.any wrongS = true):checkW l = 3:=by unfold checkW; rw [if_neg h0,if_neg h,if_pos h1]
theorem check_range {l:List Sp} (h0:l.length ≠ 0) (h:¬ 8 < l.length) (h1:l.any wrongS = false) (h2:l.any rangeS = true):checkW l = 4:=by
 unfold checkW; rw [if_neg h0,if_neg h,if_neg (by rw [h1]; simp),if_pos h2]
theorem check_right {l:List Sp} (h0:l.length ≠ 0) (h:¬ 8 < l.length) (h1:l.any wrongS = false) (h2:l.any rangeS = false) (h3:rightB l = true):checkW l = 0:=by
 unfold checkW; rw [if_neg h0,if_neg h,if_neg (by rw [h1]; simp),if_neg (by rw [h2]; simp),if_pos h3]
theorem check_over {l:List Sp} (h0:l.length ≠ 0) (h:¬ 8 < l.length) (h1:l.any wrongS = false) (h2:l.any rangeS = false) (h3:rightB l = false):checkW l = 6:=by
 unfold checkW; rw [if_neg h0,if_neg h,if_neg (by rw [h1]; simp),if_neg (by rw [h2]; simp),if_neg (by rw [h3]; simp)]
abbrev Tk:=Int × Int × List Sp
abbrev Pt:=Int × Int × Int
def tk (l:List Tk) (i:Int):Tk:=l.getD i.toNat (0,0,[])
def taskV (t:Tk):Int :=
 if t.1 < 0 ∨ 10080 < t.1 ∨ t.2.1 < 0 ∨ 1440 < t.2.1 then 4 else if 0 < t.2.1 then checkW t.2.2 else if t.2.2 = [] then 0 else 1
def TkOk (t:Tk):Prop:=0 <= t.1 /\ t.1 <= 10080 /\ 0 <= t.2.1 /\ t.2.1 <= 1440
def Fits (l:List Tk) (s:Pt):Prop :=
 0 <= s.1 /\ s.1 <= l.length /\ (s.1 = l.length -> s.2.1 = 0 /\ s.2.2 = 0) /\
  (s.1 < l.length -> 0 <= s.2.1 /\ s.2.1 <= (tk l s.1).1 /\ 0 <= s.2.2 /\ s.2.2 <= (tk l s.1).2.1 /\ (s.2.2 = 0 ∨ s.2.1 = (tk l s.1).1) /\ ¬ (s.2.1 = (tk l s.1).1 /\ s.2.2 = (tk l s.1).2.1))
instance (l:List Tk) (s:Pt):Decidable (Fits l s):=by unfold Fits; infer_instance
def Full (l:List Tk) (s:Pt):Prop:=s.1 < l.length /\ s.2.1 = (tk l s.1).1 /\ s.2.2 = (tk l s.1).2.1
instance (l:List Tk) (s:Pt):Decidable (Full l s):=by unfold Full; infer_instance
def pastN (l:List Tk):Nat -> Pt -> Pt
 | 0,s=>s
 | n + 1,s=>if Full l s then pastN l n (s.1 + 1,0,0) else s
def pastT (l:List Tk) (s:Pt):Pt:=pastN l ((l.length:Int) - s.1).toNat s
def sumD (l:List Tk):Int:=(l.map fun t=>t.1).sum
def sumS (l:List Tk):Int:=(l.map fun t=>t.2.1).sum
def leftT (l:List Tk) (s:Pt):Int × Int:=(sumD (l.drop s.1.toNat) - s.2.1,sumS (l.drop s.1.toNat) - s.2.2)
theorem tk_drop {l:List Tk} {i:Int} (h0:0 <= i) (h:i < l.length):l.drop i.toNat = tk l i :: l.drop (i + 1).toNat:=by
 have hk:i.toNat < l.length:=by omega
 have e:(i + 1).toNat = i.toNat + 1:=by omega
 rw [e,List.drop_eq_getElem_cons hk];unfold tk;rw [List.getD_eq_getElem?_getD,List.getElem?_eq_getElem hk,Option.getD_some]
def Near (l:List Tk) (s:Pt):Prop :=
 0 <= s.1 /\ s.1 <= l.length /\ (s.1 = l.length -> s.2.1 = 0 /\ s.2.2 = 0) /\
  (s.1 < l.length -> 0 <= s.2.1 /\ s.2.1 <= (tk l s.1).1 /\ 0 <= s.2.2 /\ s.2.2 <= (tk l s.1).2.1 /\ (s.2.2 = 0 ∨ s.2.1 = (tk l s.1).1))
theorem Fits.near {l:List Tk} {s:Pt} (h:Fits l s):Near l s:=by
 obtain ⟨h1,h2,h3,h4⟩:=h;exact ⟨h1,h2,h3,fun k=>⟨(h4 k).1,(h4 k).2.1,(h4 k).2.2.1,(h4 k).2.2.2.1,(h4 k).2.2.2.2.1⟩⟩
theorem Near.fits {l:List Tk} {s:Pt} (h:Near l s) (hf:¬ Full l s):Fits l s:=by
 obtain ⟨h1,h2,h3,h4⟩:=h;exact ⟨h1,h2,h3,fun k=>⟨(h4 k).1,(h4 k).2.1,(h4 k).2.2.1,(h4 k).2.2.2.1,(h4 k).2.2.2.2,fun q=>hf ⟨k,q⟩⟩⟩
theorem Fits.not_full {l:List Tk} {s:Pt} (h:Fits l s):¬ Full l s:=fun k=>(h.2.2.2 k.1).2.2.2.2.2 k.2
theorem tk_mem {l:List Tk} {i:Int} (h0:0 <= i) (h:i < l.length):tk l i ∈ l:=by
 have hk:i.toNat < l.length:=by omega
 unfold tk;rw [List.getD_eq_getElem?_getD,List.getElem?_eq_getElem hk];exact List.getElem_mem hk
theorem Near.move {l:List Tk} (ok:∀ t ∈ l,TkOk t) {s:Pt} (h:Near l s) (hf:Full l s):Near l (s.1 + 1,0,0):=by
 have h1:=h.1;have h2:=hf.1;refine ⟨by simp; omega,by simp; omega,fun _=>⟨rfl,rfl⟩,fun k=>?_⟩;simp only at k;have:=ok _ (tk_mem (l:=l) (i:=s.1 + 1) Zo k);exact ⟨Int.le_refl _,this.1,Int.le_refl _,this.2.2.1,Or.inl rfl⟩
theorem past_fits {l:List Tk} (ok:∀ t ∈ l,TkOk t):∀ (n:Nat) (s:Pt),Near l s -> (l.length:Int) - s.1 <= n -> Fits l (pastN l n s)
 | 0,s,h,hn=>h.fits fun k=>by have:=k.1; omega
 | n + 1,s,h,hn=>by
  unfold pastN;by_cases hf:Full l s
  ·rw [if_pos hf]
   exact past_fits ok n _ (h.move ok hf) (by simp; omega)
  ·rw [if_neg hf]
   exact h.fits hf
theorem pastT_fits {l:List Tk} (ok:∀ t ∈ l,TkOk t) {s:Pt} (h:Near l s):Fits l (pastT l s):=past_fits ok _ s h Zo
theorem pastT_still {l:List Tk} {s:Pt} (h:¬ Full l s):pastT l s = s:=by
 unfold pastT
 cases ((l.length:Int) - s.1).toNat with
 | zero=>rfl
 | succ n=>unfold pastN; rw [if_neg h]
theorem pastT_move {l:List Tk} {s:Pt} (h:Full l s):pastT l s = pastT l (s.1 + 1,0,0):=by
 have h1:=h.1;unfold pastT;have e:((l.length:Int) - s.1).toNat = ((l.length:Int) - (s.1 + 1)).toNat + 1:=by omega
 rw [e]
 conv=>lhs; unfold pastN
 rw [if_pos h]
def CanD (l:List Tk) (s:Pt):Prop:=s.1 < l.length /\ s.2.1 < (tk l s.1).1
def CanW (l:List Tk) (s:Pt):Prop:=s.1 < l.length /\ s.2.1 = (tk l s.1).1 /\ s.2.2 < (tk l s.1).2.1
instance (l:List Tk) (s:Pt):Decidable (CanD l s):=by unfold CanD; infer_instance
instance (l:List Tk) (s:Pt):Decidable (CanW l s):=by unfold CanW; infer_instance
def goT (l:List Tk) (s:Pt) (k:Int):Pt :=
 if k = 3 /\ CanD l s then (s.1,s.2.1 + 1,s.2.2) else if k = 2 /\ CanW l s then (s.1,s.2.1,s.2.2 + 1) else s
def stepT (l:List Tk) (s:Pt) (k:Int):Pt:=pastT l (goT l s k)
theorem go_near {l:List Tk} {s:Pt} (h:Fits l s) (k:Int):Near l (goT l s k):=by
 have hn:=h.near;unfold goT;by_cases h1:k = 3 /\ CanD l s
 ·rw [if_pos h1]
  obtain ⟨_,c1,c2⟩:=h1;obtain ⟨n1,n2,n3,n4⟩:=hn;have n4:=n4 c1;refine ⟨n1,n2,fun e=>?_,fun _=>?_⟩
  ·simp only at e; omega
  ·simp only
   refine ⟨by omega,by omega,n4.2.2.1,n4.2.2.2.1,Or.inl ?_⟩;omega
 ·rw [if_neg h1]
  by_cases h2:k = 2 /\ CanW l s
  ·rw [if_pos h2]
   obtain ⟨_,c1,c2,c3⟩:=h2;obtain ⟨n1,n2,n3,n4⟩:=hn;have n4:=n4 c1;refine ⟨n1,n2,fun e=>?_,fun _=>?_⟩
   ·simp only at e; omega
   ·exact ⟨n4.1,n4.2.1,by simp only; omega,by simp only; omega,Or.inr c2⟩
  ·rw [if_neg h2]
   exact hn
theorem step_fits {l:List Tk} (ok:∀ t ∈ l,TkOk t) {s:Pt} (h:Fits l s) (k:Int):Fits l (stepT l s k):=pastT_fits ok (go_near h k)
theorem step_still {l:List Tk} {s:Pt} (h:Fits l s) {k:Int} (h1:¬ (k = 3 /\ CanD l s)) (h2:¬ (k = 2 /\ CanW l s)):stepT l s k = s:=by
 unfold stepT goT;rw [if_neg h1,if_neg h2];exact pastT_still h.not_full
end Go.Proofs.YtiamnbddbmgffaaGreatDoor
namespace Go.Proofs.YtiamnbddbmgffaaGreatDoor
open Go.RowKit
set_option linter.unusedVariables false
def tz:Tk:=(0,0,[])
def RdK (w:World) (A:Option Addr) (l:List Tk):Prop :=
 l ≠ [] -> ∃ b off,A = some ⟨b,off,none⟩ /\ b < w.heap.size /\ ∀ k,k < l.length -> ∃ B c,
  w.cell? ⟨b,off + k * 3,none⟩ = some (.int .i64 (l.getD k tz).1) /\ w.cell? ⟨b,off + k * 3 + 1,none⟩ = some (.int .i64 (l.getD k tz).2.1) /\
   w.cell? ⟨b,off + k * 3 + 2,none⟩ = some (.slice B (l.getD k tz).2.2.length c) /\ RdS w B (l.getD k tz).2.2
theorem RdK.nil (w:World) (A:Option Addr):RdK w A []:=fun h=>absurd rfl h
theorem RdK.at_ {w:World} {A:Option Addr} {l:List Tk} (h:RdK w A l) {k:Nat} (hk:k < l.length):∃ b off d v B n c,A = some ⟨b,off,none⟩ /\ b < w.heap.size /\
  w.cell? ⟨b,off + k * 3,none⟩ = some (.int .i64 d) /\ w.cell? ⟨b,off + k * 3 + 1,none⟩ = some (.int .i64 v) /\ w.cell? ⟨b,off + k * 3 + 2,none⟩ = some (.slice B n c) /\
   Hid (∃ o:List Sp,l.getD k tz = (d,v,o) /\ o.length = n /\ RdS w B o):=by
 obtain ⟨b,off,hA,hb,hc⟩:=h (nonnil hk);obtain ⟨B,c,h1,h2,h3,h4⟩:=hc k hk;exact ⟨b,off,_,_,B,_,c,hA,hb,h1,h2,h3,Zh ⟨_,rfl,rfl,h4⟩⟩
theorem RdK.keep {w w':World} {A:Option Addr} {l:List Tk} (h:RdK w A l) (hs:w.heap.size <= w'.heap.size) (hc:∀ p:Addr,p.block < w.heap.size -> w'.cell? p = w.cell? p):RdK w' A l:=fun hl=>by
 obtain ⟨b,off,hA,hbb,hk⟩:=h hl;refine ⟨b,off,hA,Nat.lt_of_lt_of_le hbb hs,fun k hk'=>?_⟩;obtain ⟨B,c,h1,h2,h3,h4⟩:=hk k hk';exact ⟨B,c,by rw [hc ⟨b,_,none⟩ hbb]; exact h1,by rw [hc ⟨b,_,none⟩ hbb]; exact h2,by rw [hc ⟨b,_,none⟩ hbb]; exact h3,h4.keep hs hc⟩
theorem RdK.below {w w':World} {A:Option Addr} {l:List Tk} (h:RdK w A l) (hb:Below w.heap.size w w'):RdK w' A l :=
 h.keep hb.size fun _ hp=>hb.cell hp
def RdKn (n:Nat) (w:World) (A:Option Addr) (l:List Tk):Prop:=∃ w0:World,w0.heap.size = n /\ RdK w0 A l /\ Below n w0 w
theorem RdKn.rd {n:Nat} {w:World} {A:Option Addr} {l:List Tk} (h:RdKn n w A l):RdK w A l:=by
 obtain ⟨w0,rfl,h0,hb⟩:=h;exact h0.below hb
theorem RdKn.below {n:Nat} {w w':World} {A:Option Addr} {l:List Tk} (h:RdKn n w A l) (hb:Below n w w'):RdKn n w' A l:=by
 obtain ⟨w0,h0,h1,hb0⟩:=h;exact ⟨w0,h0,h1,hb0.trans hb⟩
theorem RdKn.of {w:World} {A:Option Addr} {l:List Tk} (h:RdK w A l):RdKn w.heap.size w A l:=⟨w,rfl,h,Below.refl _ _⟩
def Few (l:List Tk):Prop:=∀ t ∈ l,t.2.2.length <= 4611686018427387904
theorem Few.at_ {l:List Tk} (h:Few l) {k:Nat} (hk:k < l.length) {d v:Int} {o:List Sp} (e:l.getD k tz = (d,v,o)):o.length <= 4611686018427387904:=by
 have:l.getD k tz ∈ l:=by
  rw [List.getD_eq_getElem?_getD,List.getElem?_eq_getElem hk]; exact List.getElem_mem hk
 have h1:=h _ this;rw [e] at h1; exact h1
end Go.Proofs.YtiamnbddbmgffaaGreatDoor
namespace Go.Proofs.YtiamnbddbmgffaaGreatDoor
set_option linter.unusedVariables false
theorem task_low {d v:Int} {o:List Sp} (h:d < 0 ∨ 10080 < d ∨ v < 0 ∨ 1440 < v):taskV (d,v,o) = 4:=by unfold taskV; rw [if_pos h]
theorem task_win {d v:Int} {o:List Sp} (h:¬ (d < 0 ∨ 10080 < d ∨ v < 0 ∨ 1440 < v)) (hv:0 < v):taskV (d,v,o) = checkW o:=by
 unfold taskV; rw [if_neg h]; simp only; rw [if_pos hv]
theorem task_arg {d v:Int} {o:List Sp} (h:¬ (d < 0 ∨ 10080 < d ∨ v < 0 ∨ 1440 < v)) (hv:¬ 0 < v) (ho:0 < o.length):taskV (d,v,o) = 1:=by
 unfold taskV; rw [if_neg h]; simp only; rw [if_neg hv,if_neg (by rintro rfl; cases ho)]
theorem task_ok {d v:Int} {o:List Sp} (h:¬ (d < 0 ∨ 10080 < d ∨ v < 0 ∨ 1440 < v)) (hv:¬ 0 < v) (ho:¬ 0 < o.length):taskV (d,v,o) = 0:=by
 unfold taskV; rw [if_neg h]; simp only; rw [if_neg hv,if_pos (List.eq_nil_of_length_eq_zero Zo)]
theorem task_right {t:Tk} (h:taskV t = 0):TkOk t:=by
 unfold taskV at h;unfold TkOk;split at h
 ·cases h
 ·rename_i hn; omega
def firstT:List Tk -> Int
 | []=>0
 | t :: l=>if taskV t = 0 then firstT l else taskV t
def checkT (l:List Tk):Int:=if 2001 < l.length then 12 else firstT l
theorem first_at:∀ {l:List Tk} {k:Nat} {e:Int},k < l.length -> (∀ j,j < k -> taskV (l.getD j tz) = 0) -> taskV (l.getD k tz) = e -> e ≠ 0 -> firstT l = e
 | t :: l,0,e,_,_,he,hne=>by
  have h1:taskV t = e:=he;unfold firstT; rw [if_neg (by rw [h1]; exact hne),h1]
 | t :: l,k + 1,e,hk,h,he,hne=>by
  have h0:taskV t = 0:=h 0 Zo;unfold firstT; rw [if_pos h0];exact first_at (by simpa using hk) (fun j hj=>by have:=h (j + 1) Zo; simpa using this) (by simpa using he) hne
theorem first_none:∀ {l:List Tk},(∀ j,j < l.length -> taskV (l.getD j tz) = 0) -> firstT l = 0
 | [],_=>rfl
 | t :: l,h=>by
  have h0:taskV t = 0:=h 0 (by simp);unfold firstT; rw [if_pos h0];exact first_none fun j hj=>by have:=h (j + 1) (by simpa using hj); simpa using this
theorem first_zero:∀ {l:List Tk},firstT l = 0 -> ∀ t ∈ l,TkOk t
 | t :: l,h,u,hu=>by
  unfold firstT at h;by_cases h0:taskV t = 0
  ·rw [if_pos h0] at h
   rcases List.mem_cons.1 hu with rfl | hu
   ·exact task_right h0
   ·exact first_zero h u hu
  ·rw [if_neg h0] at h; exact absurd h h0
theorem checkt_many {l:List Tk} (h:2001 < l.length):checkT l = 12:=if_pos h
theorem checkt_at {l:List Tk} {k:Nat} {e:Int} (h0:¬ 2001 < l.length) (hk:k < l.length) (h:∀ j,j < k -> taskV (l.getD j tz) = 0) (he:taskV (l.getD k tz) = e) (hne:e ≠ 0):checkT l = e:=by
 unfold checkT; rw [if_neg h0]; exact first_at hk h he hne
theorem checkt_none {l:List Tk} (h0:¬ 2001 < l.length) (h:∀ j,j < l.length -> taskV (l.getD j tz) = 0):checkT l = 0:=by
 unfold checkT; rw [if_neg h0]; exact first_none h
theorem checkt_zero {l:List Tk} (h:checkT l = 0):(∀ t ∈ l,TkOk t) /\ l.length <= 2001:=by
 unfold checkT at h;by_cases h0:2001 < l.length
 ·rw [if_pos h0] at h; cases h
 ·rw [if_neg h0] at h; exact ⟨first_zero h,by omega⟩
def spotV (l:List Tk) (s:Pt):Int:=if checkT l = 0 then (if Fits l s then 0 else 1) else checkT l
theorem spot_bad {l:List Tk} {s:Pt} {e:Int} (h:checkT l = e) (hne:e ≠ 0):spotV l s = e:=by unfold spotV; rw [h,if_neg hne]
theorem spot_no {l:List Tk} {s:Pt} (h:checkT l = 0) (hf:¬ Fits l s):spotV l s = 1:=by unfold spotV; rw [if_pos h,if_neg hf]
theorem spot_yes {l:List Tk} {s:Pt} (h:checkT l = 0) (hf:Fits l s):spotV l s = 0:=by unfold spotV; rw [if_pos h,if_pos hf]
theorem spot_zero {l:List Tk} {s:Pt} (h:spotV l s = 0):checkT l = 0 /\ Fits l s:=by
 unfold spotV at h;by_cases h0:checkT l = 0
 ·rw [if_pos h0] at h
  by_cases h1:Fits l s
  ·exact ⟨h0,h1⟩
  ·rw [if_neg h1] at h; cases h
 ·rw [if_neg h0] at h; exact absurd h h0
abbrev Fs:=Int × Int × Int × Int
def noteF (f:Int) (b:Bool) (m:Int):Int:=if b = true /\ f < 0 then m else f
theorem note_no (f m:Int):noteF f false m = f:=by unfold noteF; rw [if_neg (by simp)]
theorem note_old {f:Int} (h:0 <= f) (b:Bool) (m:Int):noteF f b m = f:=by unfold noteF; rw [if_neg Zo]
theorem note_again (f:Int) (b:Bool) (m:Int):noteF (noteF f b m) b m = noteF f b m:=by
 unfold noteF; repeat' split
 all_goals first | rfl | omega
theorem note_set {f m:Int} (hm:0 <= m):0 <= noteF f true m:=by unfold noteF; split <;> simp_all
def b0 (l:List Tk) (s:Pt) (k:Int):Bool:=decide (k = 3 /\ ¬ CanD l s)
def b1 (l:List Tk) (s:Pt) (k:Int):Bool:=decide (k = 2 /\ ¬ CanW l s)
def b2 (l:List Tk) (s:Pt) (m k:Int):Bool:=decide (k = 2 /\ CanW l s /\ s.2.2 = 0 /\ hasL (tk l s.1).2.2 m = false)
def b3 (s:Pt) (k:Int):Bool:=decide (0 < s.2.2 /\ k ≠ 2)
def minT (l:List Tk) (k m:Int) (st:Pt × Fs):Pt × Fs :=
 (stepT l st.1 k,noteF st.2.1 (b0 l st.1 k) m,noteF st.2.2.1 (b1 l st.1 k) m,noteF st.2.2.2.1 (b2 l st.1 m k) m,noteF st.2.2.2.2 (b3 st.1 k) m)
def runK (l:List Tk) (k:Int):Nat -> Int -> Pt × Fs -> Pt × Fs
 | 0,_,st=>st
 | n + 1,m,st=>runK l k n (m + 1) (minT l k m st)
theorem runK_add (l:List Tk) (k:Int):∀ (a b:Nat) (m:Int) (st:Pt × Fs),runK l k (a + b) m st = runK l k b (m + a) (runK l k a m st)
 | 0,b,m,st=>by simp [runK]
 | a + 1,b,m,st=>by
  have e:a + 1 + b = (a + b) + 1:=by omega
  rw [e]
  show runK l k (a + b) (m + 1) (minT l k m st) = runK l k b (m + (a + 1:Nat)) (runK l k a (m + 1) (minT l k m st))
  rw [runK_add l k a b];congr 1; omega
theorem runK_fits {l:List Tk} (ok:∀ t ∈ l,TkOk t) (k:Int):∀ (n:Nat) (m:Int) (st:Pt × Fs),Fits l st.1 -> Fits l (runK l k n m st).1
 | 0,_,_,h=>h
 | n + 1,m,st,h=>runK_fits ok k n (m + 1) (minT l k m st) (step_fits ok h k)
theorem runK_pre (l:List Tk) (k:Int) (n:Nat) (m:Int) (s:Pt) (f0 f1 f2 f3:Int):runK l k (n + 1) m (s,f0,f1,f2,noteF f3 (b3 s k) m) = runK l k (n + 1) m (s,f0,f1,f2,f3):=by
 unfold runK minT;simp only [note_again]
theorem min_still {l:List Tk} {s:Pt} (h:Fits l s) {k m:Int} {f0 f1 f2 f3:Int} (hd:k = 3 -> ¬ CanD l s) (hw:k = 2 -> ¬ CanW l s) (h0:k = 3 -> 0 <= f0) (h1:k = 2 -> 0 <= f1) (h3:k ≠ 2 -> 0 < s.2.2 -> 0 <= f3) :
  minT l k m (s,f0,f1,f2,f3) = (s,f0,f1,f2,f3):=by
 unfold minT;simp only;rw [step_still h (fun c=>hd c.1 c.2) (fun c=>hw c.1 c.2)]
 have e0:noteF f0 (b0 l s k) m = f0:=by
  by_cases hk:k = 3
  ·exact note_old (h0 hk) _ _
  ·have:b0 l s k = false:=by unfold b0; simp [hk]
   rw [this,note_no]
 have e1:noteF f1 (b1 l s k) m = f1:=by
  by_cases hk:k = 2
  ·exact note_old (h1 hk) _ _
  ·have:b1 l s k = false:=by unfold b1; simp [hk]
   rw [this,note_no]
 have e2:noteF f2 (b2 l s m k) m = f2:=by
  have:b2 l s m k = false:=by unfold b2; rw [decide_eq_false]; exact fun c=>hw c.1 c.2.1
  rw [this,note_no]
 have e3:noteF f3 (b3 s k) m = f3:=by
  by_cases hc:0 < s.2.2 /\ k ≠ 2
  ·exact note_old (h3 hc.2 hc.1) _ _
  ·have:b3 s k = false:=by unfold b3; exact decide_eq_false hc
   rw [this,note_no]
 rw [e0,e1,e2,e3]
theorem runK_still {l:List Tk} {s:Pt} (h:Fits l s) {k:Int} {f0 f1 f2 f3:Int} (hd:k = 3 -> ¬ CanD l s) (hw:k = 2 -> ¬ CanW l s) (h0:k = 3 -> 0 <= f0) (h1:k = 2 -> 0 <= f1) (h3:k ≠ 2 -> 0 < s.2.2 -> 0 <= f3) :
  ∀ (n:Nat) (m:Int),runK l k n m (s,f0,f1,f2,f3) = (s,f0,f1,f2,f3)
 | 0,_=>rfl
 | n + 1,m=>by
  unfold runK;rw [min_still h hd hw h0 h1 h3];exact runK_still h hd hw h0 h1 h3 n (m + 1)
theorem runK_rest {l:List Tk} {s:Pt} (h:Fits l s) {k:Int} {f0 f1 f2 f3:Int} (hd:k ≠ 3) (hw:k ≠ 2) (h3:0 < s.2.2 -> 0 <= f3) (n:Nat) (m:Int) :
  runK l k n m (s,f0,f1,f2,f3) = (s,f0,f1,f2,f3) :=
 runK_still h (fun c=>absurd c hd) (fun c=>absurd c hw) (fun c=>absurd c hd) (fun c=>absurd c hw) (fun _=>h3) n m
theorem runK_nodrive {l:List Tk} {s:Pt} (h:Fits l s) {f0 f1 f2 f3:Int} (hd:¬ CanD l s) (h3:0 < s.2.2 -> 0 <= f3) {m:Int} (hm:0 <= m) (n:Nat) :
  runK l 3 (n + 1) m (s,f0,f1,f2,f3) = (s,noteF f0 true m,f1,f2,f3):=by
 unfold runK
 have e:minT l 3 m (s,f0,f1,f2,f3) = (s,noteF f0 true m,f1,f2,f3):=by
  unfold minT;simp only;rw [step_still h (fun c=>hd c.2) (fun c=>absurd c.1 Zd)];have e0:b0 l s 3 = true:=by unfold b0; simp [hd]
  have e1:b1 l s 3 = false:=by unfold b1; simp
  have e2:b2 l s m 3 = false:=by unfold b2; simp
  rw [e0,e1,e2,note_no,note_no];by_cases hc:0 < s.2.2
  ·rw [note_old (h3 hc)]
  ·have:b3 s 3 = false:=by unfold b3; exact decide_eq_false fun k=>hc k.1
   rw [this,note_no]
 rw [e];exact runK_still h (fun _=>hd) (fun c=>absurd c Zd) (fun _=>note_set hm) (fun c=>absurd c Zd) (fun _=>h3) n _
theorem runK_nowork {l:List Tk} {s:Pt} (h:Fits l s) {f0 f1 f2 f3:Int} (hw:¬ CanW l s) {m:Int} (hm:0 <= m) (n:Nat) :
  runK l 2 (n + 1) m (s,f0,f1,f2,f3) = (s,f0,noteF f1 true m,f2,f3):=by
 unfold runK
 have e:minT l 2 m (s,f0,f1,f2,f3) = (s,f0,noteF f1 true m,f2,f3):=by
  unfold minT;simp only;rw [step_still h (fun c=>absurd c.1 Zd) (fun c=>hw c.2)];have e0:b0 l s 2 = false:=by unfold b0; simp
  have e1:b1 l s 2 = true:=by unfold b1; simp [hw]
  have e2:b2 l s m 2 = false:=by unfold b2; rw [decide_eq_false]; exact fun c=>hw c.2.1
  have e3:b3 s 2 = false:=by unfold b3; simp
  rw [e0,e1,e2,e3,note_no,note_no,note_no]
 rw [e];exact runK_still h (fun c=>absurd c Zd) (fun _=>hw) (fun c=>absurd c Zd) (fun _=>note_set hm) (fun c=>absurd rfl c) n _
theorem fits_undriven {l:List Tk} {s:Pt} (h:Fits l s) (hd:CanD l s):s.2.2 = 0:=by
 have:=(h.2.2.2 hd.1).2.2.2.2.1;have:=hd.2;omega
theorem min_drive {l:List Tk} {s:Pt} (h:Fits l s) (hd:CanD l s) (m:Int) (f0 f1 f2 f3:Int):minT l 3 m (s,f0,f1,f2,f3) = (pastT l (s.1,s.2.1 + 1,s.2.2),f0,f1,f2,f3):=by
 have hz:=fits_undriven h hd;unfold minT stepT goT;simp only;have e0:b0 l s 3 = false:=by unfold b0; simp [hd]
 have e1:b1 l s 3 = false:=by unfold b1; simp
 have e2:b2 l s m 3 = false:=by unfold b2; simp
 have e3:b3 s 3 = false:=by unfold b3; simp [hz]
 rw [e0,e1,e2,e3,note_no,note_no,note_no,note_no,if_pos ⟨trivial,hd⟩]
theorem runK_drive {l:List Tk} (ok:∀ t ∈ l,TkOk t):∀ (n:Nat) {s:Pt} (_:Fits l s) (_:CanD l s) (m:Int) (f0 f1 f2 f3:Int),(n:Int) + 1 <= (tk l s.1).1 - s.2.1 ->
  runK l 3 (n + 1) m (s,f0,f1,f2,f3) = (pastT l (s.1,s.2.1 + (n + 1),s.2.2),f0,f1,f2,f3)
 | 0,s,h,hd,m,f0,f1,f2,f3,_=>by
  unfold runK runK;rw [min_drive h hd];simp
 | n + 1,s,h,hd,m,f0,f1,f2,f3,hn=>by
  unfold runK;rw [min_drive h hd];have hlt:s.2.1 + 1 < (tk l s.1).1:=by omega
  have hnf:¬ Full l (s.1,s.2.1 + 1,s.2.2):=fun c=>by have:=c.2.1; simp only at this; omega
  have hf:=step_fits ok h 3
  have e:stepT l s 3 = (s.1,s.2.1 + 1,s.2.2):=by
   unfold stepT goT; rw [if_pos ⟨rfl,hd⟩,pastT_still hnf]
  rw [e] at hf;rw [pastT_still hnf,runK_drive ok n hf ⟨hd.1,hlt⟩ (m + 1) f0 f1 f2 f3 (by simp only; omega)];simp only;congr 2;ext <;> simp
  omega
theorem min_work {l:List Tk} {s:Pt} (hw:CanW l s) (m:Int) (f0 f1 f2 f3:Int) :
  minT l 2 m (s,f0,f1,f2,f3) = (pastT l (s.1,s.2.1,s.2.2 + 1),f0,f1,noteF f2 (decide (s.2.2 = 0 /\ hasL (tk l s.1).2.2 m = false)) m,f3):=by
 unfold minT stepT goT;simp only;have e0:b0 l s 2 = false:=by unfold b0; simp
 have e1:b1 l s 2 = false:=by unfold b1; simp [hw]
 have e2:b2 l s m 2 = decide (s.2.2 = 0 /\ hasL (tk l s.1).2.2 m = false):=by unfold b2; simp [hw]
 have e3:b3 s 2 = false:=by unfold b3; simp
 rw [e0,e1,e2,e3,note_no,note_no,note_no,if_neg (fun c=>absurd c.1 Zd),if_pos ⟨trivial,hw⟩]
theorem runK_work {l:List Tk} (ok:∀ t ∈ l,TkOk t):∀ (n:Nat) {s:Pt} (_:Fits l s) (_:CanW l s) (m:Int) (f0 f1 f2 f3:Int),(n:Int) + 1 <= (tk l s.1).2.1 - s.2.2 ->
  runK l 2 (n + 1) m (s,f0,f1,f2,f3) = (pastT l (s.1,s.2.1,s.2.2 + (n + 1)),f0,f1,noteF f2 (decide (s.2.2 = 0 /\ hasL (tk l s.1).2.2 m = false)) m,f3)
 | 0,s,h,hw,m,f0,f1,f2,f3,_=>by
  unfold runK runK;rw [min_work hw];simp
 | n + 1,s,h,hw,m,f0,f1,f2,f3,hn=>by
  have hs:=(h.2.2.2 hw.1).2.2.1;unfold runK;rw [min_work hw];have hlt:s.2.2 + 1 < (tk l s.1).2.1:=by omega
  have hnf:¬ Full l (s.1,s.2.1,s.2.2 + 1):=fun c=>by have:=c.2.2; simp only at this; omega
  have hf:=step_fits ok h 2
  have e:stepT l s 2 = (s.1,s.2.1,s.2.2 + 1):=by
   unfold stepT goT; rw [if_neg (fun c=>absurd c.1 Zd),if_pos ⟨rfl,hw⟩,pastT_still hnf]
  rw [e] at hf;rw [pastT_still hnf,runK_work ok n hf ⟨hw.1,hw.2.1,hlt⟩ (m + 1) f0 f1 _ f3 (by simp only; omega)];simp only;have e2:decide (s.2.2 + 1 = 0 /\ hasL (tk l s.1).2.2 (m + 1) = false) = false:=decide_eq_false fun c=>by omega
  rw [e2,note_no];congr 2;ext <;> simp
  omega
theorem past_unserved {l:List Tk}:∀ (n:Nat) (s:Pt),s.2.2 = 0 -> (pastN l n s).2.2 = 0
 | 0,_,h=>h
 | n + 1,s,h=>by
  unfold pastN;by_cases hf:Full l s
  ·rw [if_pos hf]; exact past_unserved n _ rfl
  ·rw [if_neg hf]; exact h
theorem pastT_unserved {l:List Tk} {s:Pt} (h:s.2.2 = 0):(pastT l s).2.2 = 0:=past_unserved _ _ h
def overK (l:List Tk) (s:Pt) (k a b:Int):Pt × Fs × Int :=
 if spotV l s = 0 then (if aloneV k a b = 0 then ((runK l k (b - a).toNat a (s,-1,-1,-1,-1)).1,(runK l k (b - a).toNat a (s,-1,-1,-1,-1)).2,0) else ((0,0,0),(0,0,0,0),aloneV k a b)) else ((0,0,0),(0,0,0,0),spotV l s)
theorem over_spot {l:List Tk} {s:Pt} {k a b e:Int} (h:spotV l s = e) (hne:e ≠ 0):overK l s k a b = ((0,0,0),(0,0,0,0),e):=by unfold overK; rw [h,if_neg hne]
theorem over_rec {l:List Tk} {s:Pt} {k a b e:Int} (h:spotV l s = 0) (he:aloneV k a b = e) (hne:e ≠ 0):overK l s k a b = ((0,0,0),(0,0,0,0),e):=by unfold overK; rw [if_pos h,he,if_neg hne]
theorem over_ok {l:List Tk} {s n:Pt} {k a b:Int} {f:Fs} (h:spotV l s = 0) (he:aloneV k a b = 0) (hr:runK l k (b - a).toNat a (s,-1,-1,-1,-1) = (n,f)):overK l s k a b = (n,f,0):=by unfold overK; rw [if_pos h,if_pos he,hr]
end Go.Proofs.YtiamnbddbmgffaaGreatDoor
namespace Go.Proofs.YtiamnbddbmgffaaGreatDoor
open Go.RowKit
set_option linter.unusedVariables false
def LightK (l:List Tk):Prop:=l.length <= 40 /\ ∀ j,j < l.length -> (l.getD j tz).2.2.length <= 20
theorem LightK.few {l:List Tk} (h:LightK l):Few l:=fun t ht=>by
 obtain ⟨i,hi,rfl⟩:=List.getElem_of_mem ht;have:=h.2 i hi;rw [List.getD_eq_getElem?_getD,List.getElem?_eq_getElem hi] at this;simp only [Option.getD_some] at this;omega
open Classical in
set_option maxRecDepth 20000 in
set_option maxHeartbeats 2000000 in
theorem light19_any (A:Option Addr) (n c:Nat) (l:List Tk) (hn:l.length = n) (w:World) (h:RdK w A l) :
  Calls Tryz.prog 14 #[.slice A n c] w fun e w'=>e = .returned (.bool (decide (LightK l))) /\ Below w.heap.size w w':=by
 by_cases hm:40 < n
 case pos =>
  rw [decide_eq_false (show ¬ LightK l from fun k=>by have:=k.1; omega)];have hm':(40:Int) < (n:Int):=by omega
  clear h;go_enter Tryz.func14,Tryz.ntmps14;go_wp2;go_ret;exact ⟨rfl,Zq⟩
 have hm':(n:Int) <= 40:=by omega
 obtain ⟨V,hV⟩:∃ V,decide (LightK l) = V:=⟨_,rfl⟩;have HV:=Zh hV;rw [hV];clear hV;have HN:=Zh hn;go_enter Tryz.func14,Tryz.ntmps14;go_wp2;go_loopw [10] (fun i wr=>∃ k:Nat,k <= n /\ i = .int .i64 k /\ Below w.heap.size w wr /\ Hid (∀ j,j < k -> (l.getD j tz).2.2.length <= 20)) (fun i _=>n - (intOf i).toNat)
 case atStart=>exact ⟨0,Nat.zero_le _,rfl,Below.refl _ _,Zh (fun j hj=>by omega)⟩
 case round =>
  obtain ⟨k,hk,rfl,hb,hA⟩:=hrel;obtain ⟨w2,rfl⟩:∃ w2:World,w2 = wr:=⟨_,rfl⟩;have hsz:=hb.size;by_cases hlt:k < n
  ·obtain ⟨b,off,d,v,B,q,u,rfl,hbb,h0,h1,h2,hs⟩:=(h.below hb).at_ (k:=k) Zo
   obtain ⟨o,ho,hq,hr⟩:=hs.out;have HO:=Zh (show (l.getD k tz).2.2.length = q by rw [ho]; exact hq);clear hs ho hq hr hn;by_cases hq:20 < q
   ·have hq':(20:Int) < (q:Int):=by omega
    have HE:=Zh (decide_eq_false (show ¬ LightK l from fun c=>by have h1:=c.2 k (by have:=HN.out; omega); have h2:=HO.out; omega));go_wp2;go_ret;refine ⟨?_,Zq⟩;rw [<- HV.out,HE.out]; rfl
   ·have hq':(q:Int) <= 20:=by omega
    have HX:=Zh (show (l.getD k tz).2.2.length <= 20 by have:=HO.out; omega);go_wp2;go_roundw
    case rel=>exact ⟨k + 1,by omega,by go_num,Zq,Zh (fun j hj=>by
     by_cases e:j = k
     ·subst e; exact HX.out
     ·exact hA.out j Zo)⟩
    case measure=>simp [intOf]; omega
  ·have HE:=Zh (decide_eq_true (show LightK l from ⟨by have:=HN.out; omega,fun j hj=>hA.out j (by have:=HN.out; omega)⟩))
   go_wp2;go_ret;refine ⟨?_,hb⟩;rw [<- HV.out,HE.out]; rfl
def RdR (w:World) (A:Option Addr) (l:List Rc):Prop :=
 l ≠ [] -> ∃ b off,A = some ⟨b,off,none⟩ /\ b < w.heap.size /\ ∀ k,k < l.length ->
  w.cell? ⟨b,off + k * 3,none⟩ = some (.int .i64 (l.getD k rz).1) /\ w.cell? ⟨b,off + k * 3 + 1,none⟩ = some (.int .i64 (l.getD k rz).2.1) /\ w.cell? ⟨b,off + k * 3 + 2,none⟩ = some (.int .i64 (l.getD k rz).2.2)
theorem RdR.nil (w:World) (A:Option Addr):RdR w A []:=fun h=>absurd rfl h
theorem RdR.at_ {w:World} {A:Option Addr} {l:List Rc} (h:RdR w A l) {k:Nat} (hk:k < l.length):∃ b off x y z,A = some ⟨b,off,none⟩ /\ b < w.heap.size /\
  w.cell? ⟨b,off + k * 3,none⟩ = some (.int .i64 x) /\ w.cell? ⟨b,off + k * 3 + 1,none⟩ = some (.int .i64 y) /\ w.cell? ⟨b,off + k * 3 + 2,none⟩ = some (.int .i64 z) /\ Hid (l.getD k rz = (x,y,z)):=by
 obtain ⟨b,off,hA,hb,hc⟩:=h (nonnil hk);exact ⟨b,off,_,_,_,hA,hb,(hc k hk).1,(hc k hk).2.1,(hc k hk).2.2,Zh rfl⟩
theorem RdR.below {w w':World} {A:Option Addr} {l:List Rc} (h:RdR w A l) (hb:Below w.heap.size w w'):RdR w' A l:=fun hl=>by
 obtain ⟨b,off,hA,hbb,hk⟩:=h hl;exact ⟨b,off,hA,Nat.lt_of_lt_of_le hbb hb.size,fun k hk'=>⟨by rw [hb.cell (p:=⟨b,_,none⟩) hbb]; exact (hk k hk').1,by rw [hb.cell (p:=⟨b,_,none⟩) hbb]; exact (hk k hk').2.1,by rw [hb.cell (p:=⟨b,_,none⟩) hbb]; exact (hk k hk').2.2⟩⟩
def flatR (l:List Rc):List Value:=l.flatMap fun s=>[.int .i64 s.1,.int .i64 s.2.1,.int .i64 s.2.2]
theorem flatR_cons (s:Rc) (l:List Rc):flatR (s :: l) = .int .i64 s.1 :: .int .i64 s.2.1 :: .int .i64 s.2.2 :: flatR l:=rfl
theorem flatR_append (a b:List Rc):flatR (a ++ b) = flatR a ++ flatR b:=by simp [flatR]
theorem flatR_len (l:List Rc):(flatR l).length = l.length * 3:=by
 induction l with
 | nil=>rfl
 | cons s l ih=>rw [flatR_cons,List.length_cons,List.length_cons,List.length_cons,ih,List.length_cons]; omega
theorem flatR_get:∀ (l:List Rc) (k:Nat),k < l.length -> (flatR l)[k * 3]? = some (.int .i64 (l.getD k rz).1) /\ (flatR l)[k * 3 + 1]? = some (.int .i64 (l.getD k rz).2.1) /\ (flatR l)[k * 3 + 2]? = some (.int .i64 (l.getD k rz).2.2)
 | s :: l,0,_=>by simp [flatR_cons]
 | s :: l,k + 1,h=>by
  have ih:=flatR_get l k (by simpa using h);have e:(k + 1) * 3 = k * 3 + 1 + 1 + 1:=by omega
  rw [e,flatR_cons];simpa using ih
theorem flatR_one {l:List Rc} {u:Value} (h:u ∈ flatR l):u.oneCell' = true:=by
 obtain ⟨s,_,hs⟩:=List.mem_flatMap.1 h;simp at hs
 rcases hs with rfl | rfl | rfl <;> rfl
def OwnR (base:Nat) (w:World) (v:Value) (l:List Rc):Prop:=w.ownsRow base 50 3 v l.length (flatR l)
theorem OwnR.nil (base:Nat) (w:World):OwnR base w (.slice none 0 0) []:=World.ownsRow_nil w base _ 3
theorem OwnR.read {base:Nat} {w:World} {v:Value} {l:List Rc} (h:OwnR base w v l):∃ A c,v = .slice A l.length c /\ RdR w A l /\ (A = none -> c = 0):=by
 have h0:=h
 rcases h.2 with ⟨rfl,hn⟩ | ⟨g,cap,cur,rfl,hb,hg,h1,h2,h3,h4⟩
 ·obtain rfl:l = []:=List.eq_nil_of_length_eq_zero hn
  exact ⟨none,0,rfl,RdR.nil _ _,fun _=>rfl⟩
 ·refine ⟨some ⟨g,0,none⟩,cap,rfl,fun _=>⟨g,0,rfl,(World.ownsRow.lt h0 g rfl).2,fun k hk=>?_⟩,fun h=>by cases h⟩
  have hf:=flatR_get l k hk;rw [Nat.zero_add,World.ownsRow.cellAt h0 (k * 3) Zo,World.ownsRow.cellAt h0 (k * 3 + 1) Zo,World.ownsRow.cellAt h0 (k * 3 + 2) Zo];exact hf
theorem info_rec:(Tryz.prog.info? 50).map (fun i=>(i.zero,i.size,i.bytes)) = some (some (.agg #[.int .i64 0,.int .i64 0,.int .i64 0]),3,24):=by kernel_rfl
theorem RdR.news {w:World} {ad:Addr} {l:List Rc} (h:RdR w (some ad) l):∀ j u,(flatR l)[j]? = some u -> w.cell? (ad.add j) = some u:=by
 intro j u hu
 have hj:j < l.length * 3:=by
  rw [<- flatR_len];exact (List.getElem?_eq_some_iff.1 hu).1
 obtain ⟨b,off,hA,_,hc⟩:=h (nonnil (k:=j / 3) Zo);injection hA with hA
 subst hA;have hk:j / 3 < l.length:=by omega
 have hf:=flatR_get l (j / 3) hk;have hcc:=hc (j / 3) hk;rw [addr_plain];have hm:j = j / 3 * 3 ∨ j = j / 3 * 3 + 1 ∨ j = j / 3 * 3 + 2:=by omega
 rcases hm with e | e | e
 ·rw [e,hf.1] at hu
  injection hu with hu
  rw [e,<- hu]; exact hcc.1
 ·rw [e,hf.2.1] at hu
  injection hu with hu
  rw [e,<- hu,<- Nat.add_assoc]; exact hcc.2.1
 ·rw [e,hf.2.2] at hu
  injection hu with hu
  rw [e,<- hu,<- Nat.add_assoc]; exact hcc.2.2
def RdN (w:World) (A:Option Addr) (l:List Int):Prop :=
 l ≠ [] -> ∃ b off,A = some ⟨b,off,none⟩ /\ b < w.heap.size /\ ∀ k,k < l.length -> w.cell? ⟨b,off + k,none⟩ = some (.int .i64 (l.getD k 0))
theorem RdN.at_ {w:World} {A:Option Addr} {l:List Int} (h:RdN w A l) {k:Nat} (hk:k < l.length):∃ b off x,A = some ⟨b,off,none⟩ /\ b < w.heap.size /\ w.cell? ⟨b,off + k,none⟩ = some (.int .i64 x) /\ Hid (l[k]? = some x):=by
 obtain ⟨b,off,hA,hb,hc⟩:=h (nonnil hk);refine ⟨b,off,_,hA,hb,hc k hk,Zh ?_⟩;rw [List.getD_eq_getElem?_getD,List.getElem?_eq_getElem hk]; rfl
theorem RdN.below {w w':World} {A:Option Addr} {l:List Int} (h:RdN w A l) (hb:Below w.heap.size w w'):RdN w' A l:=fun hl=>by
 obtain ⟨b,off,hA,hbb,hk⟩:=h hl;exact ⟨b,off,hA,Nat.lt_of_lt_of_le hbb hb.size,fun k hk'=>by rw [hb.cell (p:=⟨b,_,none⟩) hbb]; exact hk k hk'⟩
def OwnN (base:Nat) (w:World) (v:Value) (l:List Int):Prop:=w.ownsRow base 3 1 v l.length (l.map (Value.int .i64))
theorem OwnN.nil (base:Nat) (w:World):OwnN base w (.slice none 0 0) []:=World.ownsRow_nil w base _ 1
theorem OwnN.read {base:Nat} {w:World} {v:Value} {l:List Int} (h:OwnN base w v l):∃ A c,v = .slice A l.length c /\ RdN w A l:=by
 have h0:=h
 rcases h.2 with ⟨rfl,hn⟩ | ⟨g,cap,cur,rfl,hb,hg,h1,h2,h3,h4⟩
 ·obtain rfl:l = []:=List.eq_nil_of_length_eq_zero hn
  exact ⟨none,0,rfl,fun h=>absurd rfl h⟩
 ·refine ⟨some ⟨g,0,none⟩,cap,rfl,fun _=>⟨g,0,rfl,(World.ownsRow.lt h0 g rfl).2,fun k hk=>?_⟩⟩
  rw [Nat.zero_add,World.ownsRow.cellAt h0 k Zo];simp [hk]
theorem OwnN.below {base:Nat} {w w':World} {v:Value} {l:List Int} (h:OwnN base w v l) (hb:Below w.heap.size w w'):OwnN base w' v l:=row_below h hb
theorem OwnN.more {base base':Nat} {w:World} {v:Value} {l:List Int} (h:OwnN base w v l) (hb:base' <= base):OwnN base' w v l:=row_more h hb
theorem OwnN.alloc {base:Nat} {w:World} {v:Value} {l:List Int} (h:OwnN base w v l) (o:Obj):OwnN base (w.alloc o) v l:=World.ownsRow.alloc h o
theorem OwnN.snoc {base:Nat} {w:World} {v:Value} {l:List Int} {x:Int} (h:w.ownsRow base 3 1 v (l.length + 1) (l.map (Value.int .i64) ++ [.int .i64 x])):OwnN base w v (l ++ [x]):=by
 unfold OwnN;rw [List.map_append,List.length_append];exact h
theorem info_int:(Tryz.prog.info? 3).map (fun i=>(i.zero,i.size,i.bytes)) = some (some (.int .i64 0),1,8):=by kernel_rfl
theorem int_news {w:World} {n:Nat} (hn:n = w.heap.size) {x:Int} {t:TypeId}:∀ j u,([.int .i64 x]:List Value)[j]? = some u -> (w.alloc (.cells #[.int .i64 x] t)).cell? ((⟨n,0,none⟩:Addr).add j) = some u:=by
 intro j u hj;subst hn
 match j,hj with
 | 0,hj=>simp at hj; subst hj; simp [Addr.add]
 | j + 1,hj=>simp at hj
theorem int_cells {x:Int}:∀ u ∈ ([.int .i64 x]:List Value),u.oneCell' = true:=by
 intro u hu;simp at hu;subst hu;rfl
def nmL:List ByteArray:=[⟨#[98,114,101,97,107]⟩,⟨#[108,111,110,103,101,114]⟩,⟨#[108,111,110,103,101,114,115]⟩,⟨#[119,101,101,107]⟩,⟨#[102,111,114,116,110,105,103,104,116]⟩,⟨#[100,97,105,108,121]⟩,⟨#[114,101,100,117,99,101,115]⟩,⟨#[119,101,101,107,108,121]⟩,⟨#[98,114,105,101,102]⟩,⟨#[108,97,98,111,117,114]⟩,⟨#[100,114,105,118,101]⟩,⟨#[119,111,114,107]⟩,⟨#[111,112,101,110]⟩,⟨#[115,101,114,118,101]⟩,⟨#[108,101,102,116]⟩,⟨#[108,111,97,100]⟩]
def arL:List ByteArray:=[⟨#[55]⟩,⟨#[54,40,49,41]⟩,⟨#[54,40,49,41]⟩,⟨#[54,40,50,41]⟩,⟨#[54,40,51,41]⟩,⟨#[56,40,50,41]⟩,⟨#[56,40,52,41]⟩,⟨#[56,40,54,41]⟩,⟨#[56,40,54,41]⟩,⟨#[68,52]⟩,⟨#[82,49]⟩,⟨#[82,49]⟩,⟨#[82,50]⟩,⟨#[82,51]⟩,⟨#[82,52]⟩,⟨#[82,53]⟩]
def nmB (k:Nat):ByteArray:=nmL.getD k ⟨#[]⟩
def arB (k:Nat):ByteArray:=arL.getD k ⟨#[]⟩
def artW:ByteArray:=⟨#[97,114,116,46]⟩
def isC (c:Int):Prop:=0 <= c /\ c < 16
instance (c:Int):Decidable (isC c):=by unfold isC; infer_instance
def nameV (c:Int):ByteArray:=if isC c then nmB c.toNat else ⟨#[]⟩
def artV (c:Int):ByteArray:=if isC c then arB c.toNat else ⟨#[]⟩
def noneV (c:Int):Int:=if isC c then 0 else 13
theorem isC_nat {k:Nat} (h:k < 16):isC (k:Int):=⟨by omega,by omega⟩
theorem name_yes {k:Nat} (h:k < 16):nameV (k:Int) = nmB k:=by unfold nameV; rw [if_pos (isC_nat h)]; rfl
theorem art_yes {k:Nat} (h:k < 16):artV (k:Int) = arB k:=by unfold artV; rw [if_pos (isC_nat h)]; rfl
theorem name_no {c:Int} (h:¬ isC c):nameV c = ⟨#[]⟩:=if_neg h
theorem art_no {c:Int} (h:¬ isC c):artV c = ⟨#[]⟩:=if_neg h
theorem none_yes {c:Int} (h:isC c):noneV c = 0:=if_pos h
theorem none_no {c:Int} (h:¬ isC c):noneV c = 13:=if_neg h
theorem isC_of {c:Int} (h:isC c):∃ k:Nat,k < 16 /\ c = (k:Int):=⟨c.toNat,by have:=h.1; have:=h.2; omega,by have:=h.1; omega⟩
theorem fin16 {p:Nat -> Prop} (h:∀ k:Fin 16,p k.val):∀ k,k < 16 -> p k:=fun k hk=>h ⟨k,hk⟩
theorem nm_size:∀ k,k < 16 -> (nmB k).size ≠ 0 /\ (nmB k).size <= 9:=fin16 (by decide +kernel)
theorem ar_size:∀ k,k < 16 -> (arB k).size <= 4:=fin16 (by decide +kernel)
theorem nm_clean:∀ k,k < 16 -> ∀ b ∈ (nmB k).data.toList,33 <= b.toNat /\ b.toNat <= 126:=fin16 (by decide +kernel)
theorem ar_clean:∀ k,k < 16 -> ∀ b ∈ (artW ++ arB k).data.toList,33 <= b.toNat /\ b.toNat <= 126:=fin16 (by decide +kernel)
def bitV (s:Int) (k:Nat):Bool:=s / 2 ^ k % 2 == 1
def allN (s:Int) (k:Nat):List Int:=((List.range k).filter (bitV s)).map Int.ofNat
def inV (s c:Int):Bool:=decide (isC c) && bitV s c.toNat
theorem all_yes {s:Int} {k:Nat} (h:bitV s k = true):allN s (k + 1) = allN s k ++ [(k:Int)]:=by
 unfold allN;rw [List.range_succ,List.filter_append,List.map_append];simp [h]
theorem all_no {s:Int} {k:Nat} (h:bitV s k = false):allN s (k + 1) = allN s k:=by
 unfold allN;rw [List.range_succ,List.filter_append,List.map_append];simp [h]
theorem all_len (s:Int) (k:Nat):(allN s k).length <= k:=by
 unfold allN;rw [List.length_map];exact Nat.le_trans (List.length_filter_le _ _) (by simp)
theorem all_mem (s c:Int):c ∈ allN s 16 ↔ isC c /\ bitV s c.toNat = true:=by
 simp only [allN,List.mem_map,List.mem_filter,List.mem_range];constructor
 ·rintro ⟨k,⟨hk,hb⟩,rfl⟩
  exact ⟨isC_nat hk,by simpa using hb⟩
 ·rintro ⟨h,hb⟩
  obtain ⟨k,hk,rfl⟩:=isC_of h;exact ⟨k,⟨hk,by simpa using hb⟩,rfl⟩
def Titles (w:World):Prop:=∀ k:Nat,k < 16 -> w.cell? ⟨0,k * 2,none⟩ = some (.string (nmB k)) /\ w.cell? ⟨0,k * 2 + 1,none⟩ = some (.string (arB k))
theorem Titles.lt {w:World} (h:Titles w):0 < w.heap.size:=World.block_lt_of_cell? w _ (h 0 Zo).1
theorem Titles.below {w w':World} (h:Titles w) (hb:Below w.heap.size w w'):Titles w':=fun k hk=>⟨c_cl (h k hk).1 hb,c_cl (h k hk).2 hb⟩
theorem is_any (c:Int) (w:World) :
  Calls Tryz.prog 84 #[.int .i64 c] w fun e w'=>e = .returned (.bool (decide (isC c))) /\ w = w':=by
 by_cases h:isC c
 ·rw [decide_eq_true h]
  obtain ⟨h0,h1⟩:=h;go_enter Tryz.func84,Tryz.ntmps84;go_wp2;go_ret;exact ⟨rfl,rfl⟩
 ·rw [decide_eq_false h]
  by_cases h0:0 <= c
  ·have h1:¬ c < 16:=fun k=>h ⟨h0,k⟩
   clear h;go_enter Tryz.func84,Tryz.ntmps84;go_wp2;go_ret;exact ⟨rfl,rfl⟩
  ·clear h
   go_enter Tryz.func84,Tryz.ntmps84;go_wp2;go_ret;exact ⟨rfl,rfl⟩
theorem title_yes (k:Nat) (w:World) (hk:k < 16) (hT:Titles w) :
  Calls Tryz.prog 68 #[.int .i64 (k:Nat)] w fun e w'=>e = .returned (.tuple #[.agg #[.string (nmB k),.string (arB k)],.int .i64 0]) /\ Below w.heap.size w w':=by
 have CI:=fun W=>is_any (k:Int) W
 rw [decide_eq_true (isC_nat hk)] at CI;obtain ⟨q0,q1⟩:=hT k hk;have hlt:=hT.lt;have k0:(0:Int) <= (k:Int):=by omega
 have k1:(k:Int) < 16:=by omega
 generalize nmB k = a at q0;generalize arB k = b at q1;clear hT;go_enter Tryz.func68,Tryz.ntmps68;go_wp2_with (go_at_call 84; (with_reducible refine (CI _).mono ?_); rintro e w1 ⟨rfl,rfl⟩);refine bodyPost_ret (v:=.tuple #[.agg #[.string a,.string b],.int .i64 0]) (by simp [results,Tryz.results68,go_sem, *]) rfl ⟨rfl,?_⟩;exact Za
theorem title_no (c:Int) (w:World) (h:¬ isC c) :
  Calls Tryz.prog 68 #[.int .i64 c] w fun e w'=>e = .returned (.tuple #[.agg #[.string ⟨#[]⟩,.string ⟨#[]⟩],.int .i64 13]) /\ Below w.heap.size w w':=by
 have CI:=fun W=>is_any c W
 rw [decide_eq_false h] at CI;clear h;go_enter Tryz.func68,Tryz.ntmps68;go_wp2_with (go_at_call 84; (with_reducible refine (CI _).mono ?_); rintro e w1 ⟨rfl,rfl⟩);refine bodyPost_ret (v:=.tuple #[.agg #[.string ⟨#[]⟩,.string ⟨#[]⟩],.int .i64 13]) (by simp [results,Tryz.results68,go_sem, *]) rfl ⟨rfl,?_⟩;exact Za
theorem title_any (c:Int) (w:World) (hT:Titles w) :
  Calls Tryz.prog 68 #[.int .i64 c] w fun e w'=>e = .returned (.tuple #[.agg #[.string (nameV c),.string (artV c)],.int .i64 (noneV c)]) /\ Below w.heap.size w w':=by
 by_cases h:isC c
 ·rw [none_yes h]
  obtain ⟨k,hk,rfl⟩:=isC_of h;rw [name_yes hk,art_yes hk];exact title_yes k w hk hT
 ·rw [name_no h,art_no h,none_no h]
  exact title_no c w h
end Go.Proofs.YtiamnbddbmgffaaGreatDoor
namespace Go.Proofs.YtiamnbddbmgffaaGreatDoor
open Go.ChangeShapes
set_option linter.unusedVariables false
theorem pairs_of_head {P:Program} {W:World} {name:String} {zs:List (List UInt8 × List UInt8)} {rest:List (String × DataW Unit)} {g:Nat} {t e s:TypeId} {n:Nat} {f0 f1:Field}
  (hg:P.globalNamed name = some g) (hty:(P.globals[g]?).map (·.type) = some t) (ht:P.underlying t = some (.array n e)) (he:P.underlying e = some (.struct #[f0,f1]))
  (h0:f0.type = s) (o0:f0.offset = 0) (h1:f1.type = s) (o1:f1.offset = 1) (hs:P.underlying s = some .string) (hcs:P.cellsOf s = 1) (hce:P.cellsOf e = 2)
  (h:laidMet P ((name,.agg (zs.map fun z=>.agg [.lit (.string z.1),.lit (.string z.2)])) :: rest) W) :
  ∀ k z,zs[k]? = some z -> W.cell? ⟨g,k * 2,none⟩ = some (.string ⟨z.1.toArray⟩) /\ W.cell? ⟨g,k * 2 + 1,none⟩ = some (.string ⟨z.2.toArray⟩):=by
 intro k z hz;obtain ⟨ps,⟨g',t',cs,fuel,p,q,hg',ht',hvar,hd,_,_⟩,_⟩:=h;obtain rfl:=Option.some.inj (hg.symm.trans hg');obtain rfl:=Option.some.inj (hty.symm.trans ht');obtain ⟨xs,m,rfl,hx,_,hn,hel⟩:=DataW.trod_array ht hd
 have hxs:xs.map (·.1) = zs.map fun z=>(DataW.agg [.lit (.string z.1),.lit (.string z.2)]:DataW Unit):=by
  have:=congrArg Prod.fst hx;simpa using this.symm
 have hl:zs.length = xs.length:=by
  have:=congrArg List.length hxs;simpa using this.symm
 have hkn:k < n:=by
  have:=(List.getElem?_eq_some_iff.1 hz).1;omega
 have hk:=hel k hkn;have hkx:k < xs.length:=by omega
 rw [List.getElem?_eq_getElem hkx] at hk;obtain ⟨y0,y1,m2,hy,hlen,t0,t1⟩:=trod_struct2 he hk;rw [h0,o0,hcs] at t0;rw [h1,o1,hcs] at t1;obtain ⟨a,ha,ha2,_⟩:=DataW.trod_string hs t0;obtain ⟨b,hb,hb2,_⟩:=DataW.trod_string hs t1
 have hzz:(xs[k]).1 = (DataW.agg [.lit (.string z.1),.lit (.string z.2)]:DataW Unit):=by
  have h2:(xs.map (·.1))[k]? = some (xs[k]).1:=by rw [List.getElem?_map,List.getElem?_eq_getElem hkx]; rfl
  rw [hxs,List.getElem?_map,hz] at h2;exact (Option.some.inj h2).symm
 rw [hy,ha2,hb2] at hzz;simp only [DataW.agg.injEq,List.cons.injEq,DataW.lit.injEq,Lit.string.injEq,and_true] at hzz;obtain ⟨e1,e2⟩:=hzz;rw [hce] at ha hb
 have q0:cs[k * 2]? = some (.string a):=by
  have:=congrArg (·[0]?) ha;simpa using this
 have q1:cs[k * 2 + 1]? = some (.string b):=by
  have:=congrArg (·[0]?) hb;simpa using this
 rw [World.var?_cell hg hvar (k * 2),World.var?_cell hg hvar (k * 2 + 1),q0,q1,<- e1,<- e2];exact ⟨rfl,rfl⟩
end Go.Proofs.YtiamnbddbmgffaaGreatDoor
namespace Go.Proofs.YtiamnbddbmgffaaGreatDoor
set_option linter.unusedVariables false
theorem gTitles:Tryz.prog.globalNamed "haulier/clause.titles" = some 0:=by kernel_rfl
theorem tTitles:(Tryz.prog.globals[0]?).map (·.type) = some 160:=by kernel_rfl
theorem cTitle:Tryz.prog.cellsOf 115 = 2:=by kernel_rfl
theorem cTitleS:Tryz.prog.cellsOf 9 = 1:=by kernel_rfl
def titleL:List (List UInt8 × List UInt8):=[([98,114,101,97,107],[55]),([108,111,110,103,101,114],[54,40,49,41]),([108,111,110,103,101,114,115],[54,40,49,41]),([119,101,101,107],[54,40,50,41]),([102,111,114,116,110,105,103,104,116],[54,40,51,41]),([100,97,105,108,121],[56,40,50,41]),([114,101,100,117,99,101,115],[56,40,52,41]),([119,101,101,107,108,121],[56,40,54,41]),([98,114,105,101,102],[56,40,54,41]),([108,97,98,111,117,114],[68,52]),([100,114,105,118,101],[82,49]),([119,111,114,107],[82,49]),([111,112,101,110],[82,50]),([115,101,114,118,101],[82,51]),([108,101,102,116],[82,52]),([108,111,97,100],[82,53])]
theorem title_at:∀ k,k < 16 -> ∃ z,titleL[k]? = some z /\ (⟨z.1.toArray⟩:ByteArray) = nmB k /\ (⟨z.2.toArray⟩:ByteArray) = arB k:=by
 intro k hk;have:k = 0 ∨ k = 1 ∨ k = 2 ∨ k = 3 ∨ k = 4 ∨ k = 5 ∨ k = 6 ∨ k = 7 ∨ k = 8 ∨ k = 9 ∨ k = 10 ∨ k = 11 ∨ k = 12 ∨ k = 13 ∨ k = 14 ∨ k = 15:=by omega
 rcases this with rfl | rfl | rfl | rfl | rfl | rfl | rfl | rfl | rfl | rfl | rfl | rfl | rfl | rfl | rfl | rfl <;> exact ⟨_,rfl,rfl,rfl⟩
theorem titles_of_laid {W:World} {l:List (String × DataW Unit)} (h:laidMetH Tryz.prog l W) (hp:(l.all fun x=>x.2.handleName?.isNone) = true) (hm:("haulier/clause.titles",Rows.laid_haulier_clause_titles) ∈ l):Titles W:=by
 rw [MakeChecks.laidMetH_plain _ _ _ hp] at h;obtain ⟨r,hr⟩:=laid_at h hm;have hc:=pairs_of_head (zs:=titleL) (s:=9) gTitles tTitles Tryz.underlying160 Tryz.underlying115 rfl rfl rfl rfl Tryz.underlying9 cTitleS cTitle hr;intro k hk;obtain ⟨z,hz,e1,e2⟩:=title_at k hk;have:=hc k z hz;rw [e1,e2] at this;exact this
end Go.Proofs.YtiamnbddbmgffaaGreatDoor
namespace Go.Proofs.YtiamnbddbmgffaaGreatDoor
open Go.RowKit
set_option linter.unusedVariables false
def RdT (w:World) (A:Option Addr) (l:List ByteArray):Prop :=
 l ≠ [] -> ∃ b off,A = some ⟨b,off,none⟩ /\ b < w.heap.size /\ ∀ k,k < l.length -> w.cell? ⟨b,off + k,none⟩ = some (.string (l.getD k ⟨#[]⟩))
theorem RdT.at_ {w:World} {A:Option Addr} {l:List ByteArray} (h:RdT w A l) {k:Nat} (hk:k < l.length):∃ b off s,A = some ⟨b,off,none⟩ /\ b < w.heap.size /\ w.cell? ⟨b,off + k,none⟩ = some (.string s) /\ Hid (l.getD k ⟨#[]⟩ = s):=by
 obtain ⟨b,off,hA,hb,hc⟩:=h (nonnil hk);exact ⟨b,off,_,hA,hb,hc k hk,Zh rfl⟩
end Go.Proofs.YtiamnbddbmgffaaGreatDoor
