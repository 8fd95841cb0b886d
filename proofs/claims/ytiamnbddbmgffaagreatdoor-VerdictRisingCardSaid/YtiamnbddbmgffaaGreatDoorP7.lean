/- Texts of the proofs of VerdictAudits, VerdictAll, VerdictRising, pressed: Short0, Row, Short, Laid, WeekMath, WordMath, WordNum, WordNumC, WordRow, Box, RecMath, FindHeap, IvalsMath, IvalsWords. Conditions: as each theorem says. -/
import Derived.Test.YtiamnbddbmgffaaGreatDoorRows
import Derived.Test.YtiamnbddbmgffaaGreatDoorBase
import Derived.KernelRfl
import Derived.WalkKit
import Derived.Deep.QuietTactic
import Derived.Laws.OwnMore
import Derived.OwnWalk
import Derived.Laws.AppendOwn
import Derived.Laws.Rows
import Derived.WalkSpells
import Derived.WalkSmall
import Derived.OrdersHeld
import Derived.Deep.RegionHeld3
import Derived.Outline
import Derived.Stop.LaidErr
import Derived.OpenShut
import Derived.LaidMore
import Derived.MakeChecks
import Derived.RowKit
import Derived.IntWalk
import Derived.Lib.AtoiAllCases
import Derived.Lib.ItoaNum
import Derived.Lib.CutLaws
import Derived.Lib.IndexLaws
import Derived.Lib.LaidTab
import Derived.SizedLaws
import Derived.SevenTiedAt
import Derived.Stop.Joined
import Derived.Laws.Tables
import Derived.Laws.CopyRow
import Derived.Laws.StructEq
import Derived.Deep.Quiet
import Derived.Deep.MidRow
import Derived.Laws.BytesArg
import Derived.Lib.SlicesS
import Derived.Shelf.LaysC
import Derived.Shelf.LaysM
import Derived.Shelf.Small.Strs
import Derived.Shelf.Strconv.Itoa3
import Derived.Shelf.Strings.BuilderF
import Derived.Shelf.Strings.BuilderK
namespace Go.Proofs.YtiamnbddbmgffaaGreatDoor
open Go.RowKit
set_option linter.unusedVariables false
theorem Zo {p : Prop} (h : p := by omega) : p := h
theorem Zk {p : Prop} (h : p := by kernel_rfl) : p := h
theorem Zd {p : Prop} (h : p := by decide) : p := h
theorem Zv {p : Prop} (h : p := by rfl) : p := h
theorem Zm {p : Prop} (h : p := by assumption) : p := h
theorem Zl {n : Nat} : n ≤ n := Nat.le_refl n
theorem Zh {p : Prop} (h : p) : Hid p := Lib.hid h
structure BelowOf (w:World) where
 world:World
 ok:Below w.heap.size w world
instance (w:World):Inhabited (BelowOf w):=⟨⟨w,Below.refl _ _⟩⟩
theorem BelowOf.cell {w:World} (p:BelowOf w) {a:Addr} {v:Value} (h:w.cell? a = some v):p.world.cell? a = some v :=
 (p.ok.cell (World.block_lt_of_cell? w a h)).trans h
theorem wp_region_bel {P:Program} {id:Nat} {Q:Exit -> Act -> World -> Prop} {a:Act} {w:World} {l:List Oper} (hm:P.follows .mixedOrders = true) (hB:Region.lexB .any l.toArray = true)
  (h:wpQuiet P l.toArray (fun w'=>∃ p:BelowOf w,w' = p.world) (fun a'=>∀ w',(∃ p:BelowOf w,w' = p.world) -> Q .normal a' w') l a):(Code.region id l.toArray true).wp P Q a w :=
 wp_region_quiet (C:=fun w'=>∃ p:BelowOf w,w' = p.world) hm hB ⟨⟨w.drew,b_dr (Below.refl _ _)⟩,rfl⟩ (by simpa using h)
theorem bel_all {w:World} {Q:World -> Prop} (h:∀ wq,Below w.heap.size w wq -> Q wq):∀ w',(∃ p:BelowOf w,w' = p.world) -> Q w':=fun _ ⟨⟨_,ok⟩,e⟩=>e ▸ h _ ok
theorem Calls.bel_of {P:Program} {f:FuncId} {args:Array Value} {w:World} {p:BelowOf w} {v:Value}
  (h:Calls P f args p.world fun e w'=>e = .returned v /\ Below p.world.heap.size p.world w'):Calls P f args p.world fun e w''=>e = .returned v /\ ∃ q:BelowOf w,w'' = q.world :=
 h.mono fun _ _ ⟨he,hb⟩=>⟨he,⟨_,p.ok.trans (hb.mono p.ok.size)⟩,rfl⟩
theorem row_below {base sz n:Nat} {e:TypeId} {w w':World} {v:Value} {cs:List Value} (h:w.ownsRow base e sz v n cs) (hb:Below w.heap.size w w'):w'.ownsRow base e sz v n cs:=by
 refine ⟨h.1,?_⟩
 rcases h.2 with h2 | ⟨g,cap,cur,hv,hg,hh,r⟩
 ·exact Or.inl h2
 ·refine Or.inr ⟨g,cap,cur,hv,hg,?_,r⟩
  have hlt:g < w.heap.size:=by
   rcases Nat.lt_or_ge g w.heap.size with h | h
   ·exact h
   ·rw [Array.getElem?_eq_none h] at hh; cases hh
  rw [hb.block g hlt]; exact hh
theorem row_more {base base' sz n:Nat} {e:TypeId} {w:World} {v:Value} {cs:List Value} (h:w.ownsRow base e sz v n cs) (hb:base' <= base):w.ownsRow base' e sz v n cs:=by
 refine ⟨h.1,?_⟩
 rcases h.2 with h2 | ⟨g,cap,cur,hv,hg,hh,r⟩
 ·exact Or.inl h2
 ·exact Or.inr ⟨g,cap,cur,hv,Nat.le_trans hb hg,hh,r⟩
theorem nonnil {α:Type} {l:List α} {k:Nat} (h:k < l.length):l ≠ []:=by rintro rfl; cases h
theorem b_tr {a b c:World} (h1:Below a.heap.size a b) (h2:Below b.heap.size b c):Below a.heap.size a c:=h1.trans (h2.mono h1.size)
theorem addr_plain (b off i:Nat):(⟨b,off,none⟩:Addr).add i = ⟨b,off + i,none⟩:=by
 unfold Addr.add;by_cases h:i = 0 <;> simp [h]
section
variable {P : Program} {ops : Array Oper} {Q : Exit → Act → World → Prop} {md : Region.Mode} {S : World → Prop} {fuel : Nat} {listed : Array Bool} {a : Act} {w : World}
theorem Zt (i : Nat) (d : Option Tmp) {o : Op} {t : TypeId} {p : String} {f : Array Edge} {g : Option (Nat × Bool)} {v : Value}
    (h : wpAnyH P md ops Q S fuel (listed.setIfInBounds i true) (a.put d v) w)
    (hi : ops[i]? = some ⟨d, o, t, p, f, g⟩ := by rfl)
    (hs : Region.noSelect ops = true := by kernel_rfl) (hf : Region.free md ops listed i = true := by kernel_rfl) (hr : (Region.ready md ops listed).contains i = true := by kernel_rfl)
    (hQ : ∀ c a w, Q (.panic c) (a.put d v) w → Q (.panic c) a w := by exact fun _ _ _ h => h)
    (hw : Region.wanted ⟨d, o, t, p, f, g⟩ (yielded ops a.tmps) = true := by rfl)
    (hy : ∀ w', S w' → (execOp a.eval ⟨d, o, t, p, f, g⟩).run P w' = .ok (.value v) w' := by (intro w' hSw; clear hSw; go_simp; try (with_reducible rfl)))
    (hS : S w := by assumption) : wpAnyH P md ops Q S (fuel + 1) listed a w :=
  wpAnyH_take hi hs hf hr hQ (.inl ⟨hw, hy⟩) hS h
theorem Zu (i : Nat) (d : Option Tmp) {o : Op} {t : TypeId} {p : String} {f : Array Edge} {g : Option (Nat × Bool)}
    (h : wpAnyH P md ops Q S fuel (listed.setIfInBounds i true) (a.put d undef) w)
    (hi : ops[i]? = some ⟨d, o, t, p, f, g⟩ := by rfl)
    (hs : Region.noSelect ops = true := by kernel_rfl) (hf : Region.free md ops listed i = true := by kernel_rfl) (hr : (Region.ready md ops listed).contains i = true := by kernel_rfl)
    (hQ : ∀ c a w, Q (.panic c) (a.put d undef) w → Q (.panic c) a w := by exact fun _ _ _ h => h)
    (hw : Region.wanted ⟨d, o, t, p, f, g⟩ (yielded ops a.tmps) = false := by rfl)
    (hS : S w := by assumption) : wpAnyH P md ops Q S (fuel + 1) listed a w :=
  wpAnyH_take hi hs hf hr hQ (.inr ⟨hw, rfl⟩) hS h
theorem Zr (i : Nat) (d : Option Tmp) {o : Op} {t : TypeId} {p : String} {f : Array Edge} {g : Option (Nat × Bool)}
    (h : ∀ K' : Act → World → Prop, Shut (∀ a w, S w → (S w → wpAnyH P md ops Q S fuel (listed.setIfInBounds i true) a w) → K' a w) → if Region.wanted ⟨d, o, t, p, f, g⟩ (yielded ops a.tmps) = true then Oper.wp P ⟨d, o, t, p, f, g⟩ a w K' Q else K' (a.put d undef) w)
    (hr : Region.ready md ops listed = [i] := by kernel_rfl) (hi : ops[i]? = some ⟨d, o, t, p, f, g⟩ := by rfl) : wpAnyH P md ops Q S (fuel + 1) listed a w :=
  wpAnyH_ready hr (by simp) (AllReadyH.cons hi h AllReadyH.nil)
end
theorem Zs : (∀ (a : Act) (v : Value) (d : Tmp), a.put (some d) v = { tmps := a.tmps.setIfInBounds d v, defers := a.defers }) ∧ (∀ (a : Act) (v : Value), a.put none v = a) ∧ (∀ (l : List Value) (i : Nat) (a : Value), l.toArray.setIfInBounds i a = (l.set i a).toArray) ∧
    (∀ (x a : Value) (xs : List Value), (x :: xs).set 0 a = a :: xs) ∧ (∀ (x a : Value) (xs : List Value) (i : Nat), (x :: xs).set (i + 1) a = x :: xs.set i a) :=
  ⟨fun _ _ _ => rfl, fun _ _ => rfl, fun l i a => List.setIfInBounds_toArray l i a, fun _ _ _ => rfl, fun _ _ _ _ => rfl⟩
theorem Zq {p : Prop} (h : p := by (repeat (first | exact Below.refl _ _ | (refine b_st ?_ (by first | (simp; done) | (simp; omega))) | (refine b_al ?_ (Nat.le_refl _) _) | refine b_dn ?_ | refine b_dr ?_ | (refine b_cl ?_ (Nat.le_refl _) (by assumption))))) : p := h
theorem Za {p : Prop} (h : p := by (repeat (first | assumption | exact Below.refl _ _ | (refine b_st ?_ (by first | (simp; done) | (simp; omega))) | (refine b_al ?_ (Nat.le_refl _) _) | refine b_dn ?_ | refine b_dr ?_ | (refine b_cl ?_ (Nat.le_refl _) (by assumption))))) : p := h
end Go.Proofs.YtiamnbddbmgffaaGreatDoor
namespace Go.Proofs.YtiamnbddbmgffaaGreatDoor
set_option linter.unusedVariables false
theorem laid_at {P:Program} {W:World} {n:String} {d:DataW Unit}:∀ {l:List (String × DataW Unit)},laidMet P l W -> (n,d) ∈ l -> ∃ r,laidMet P ((n,d) :: r) W
 | [],_,hm=>by cases hm
 | x :: r,h,hm=>by
  rcases List.mem_cons.1 hm with rfl | hm
  ·exact ⟨r,h⟩
  ·exact laid_at h.tail hm
end Go.Proofs.YtiamnbddbmgffaaGreatDoor
namespace Go.Proofs.YtiamnbddbmgffaaGreatDoor
open Go.RowKit
set_option linter.unusedVariables false
def bt (s:ByteArray) (i:Nat):Int:=((s.data.getD i 0).toNat:Int)
def pbeg (c:Int) (t:ByteArray):Nat -> Nat
 | 0=>0
 | i + 1=>if bt t i = c then i + 1 else pbeg c t i
theorem size_list (t:ByteArray):t.data.toList.length = t.size:=by rw [Array.length_toList]; rfl
def joinB:List ByteArray -> List UInt8
 | []=>[]
 | x :: r=>x.data.toList ++ r.flatMap fun s=>32 :: s.data.toList
theorem joinB_snoc {l:List ByteArray} (x:ByteArray) (h:l ≠ []):joinB (l ++ [x]) = joinB l ++ 32 :: x.data.toList:=by
 cases l with
 | nil=>exact absurd rfl h
 | cons a l=>simp [joinB]
def bad (t:ByteArray) (i:Nat):Prop:=bt t i < 32 ∨ 126 < bt t i ∨ (bt t i = 32 /\ pbeg 32 t i = i)
instance (t:ByteArray) (i:Nat):Decidable (bad t i):=by unfold bad; infer_instance
theorem dec_small {u:Nat} (h:u < 10):Lib.decDigits u = [UInt8.ofNat (48 + u)]:=by rw [Lib.decDigits,dif_pos h]
theorem dec_big {u:Nat} (h:¬ u < 10):Lib.decDigits u = Lib.decDigits (u / 10) ++ [UInt8.ofNat (48 + u % 10)]:=by rw [Lib.decDigits,dif_neg h]
def itoaB (n:Int):ByteArray:=⟨(Lib.itoa n).toArray⟩
theorem itoaB_list (n:Int):(itoaB n).data.toList = Lib.itoa n:=by simp [itoaB]
theorem itoa_pos {n:Int} (h:0 <= n):Lib.itoa n = Lib.decDigits n.toNat:=by unfold Lib.itoa; rw [if_neg Zo]
theorem itoa_neg {n:Int} (h:n < 0):Lib.itoa n = 45 :: Lib.decDigits n.natAbs:=by unfold Lib.itoa; rw [if_pos h]
def toldB (x y:Int):ByteArray:=(itoaB x ++ ⟨#[45]⟩) ++ itoaB y
theorem var_below {w w':World} {n:String} {cs:Array Value} (h:w.var? Tryz.prog n = some cs) (hb:Below w.heap.size w w'):w'.var? Tryz.prog n = some cs:=by
 unfold World.var? at *
 cases hg:Tryz.prog.globalNamed n with
 | none=>rw [hg] at h; cases h
 | some g =>
  rw [hg] at h;simp only [Option.bind_some] at h ⊢
  have hlt:g < w.heap.size:=by
   rcases Nat.lt_or_ge g w.heap.size with h' | h'
   ·exact h'
   ·rw [Array.getElem?_eq_none h'] at h; simp at h
  rw [hb.block g hlt];exact h
end Go.Proofs.YtiamnbddbmgffaaGreatDoor
namespace Go.Proofs.YtiamnbddbmgffaaGreatDoor
set_option linter.unusedVariables false
theorem gPow:Tryz.prog.globalNamed "internal/strconv.uint64pow10" = some 1:=by kernel_rfl
theorem tPow:(Tryz.prog.globals[1]?).map (·.type) = some 235:=by kernel_rfl
theorem cU64:Tryz.prog.cellsOf 213 = 1:=by kernel_rfl
theorem cPow:Tryz.prog.cellsOf 235 = 20:=by kernel_rfl
theorem powData:(Rows.laid_internal_strconv_uint64pow10:DataW Unit) = Lib.tabData .u64 Lib.pow10Tab:=by rfl
theorem returns_laid {H:Type} {enc:TypeId × Value -> H} {a:Assume} {C:Checked} {os:Os} {f:FuncId} {fn:Func} {s:ChangeSpec} {conds:List PathCond} {apart fresh handsOn again:Bool} {X:World -> Array Value -> Prop}
  (same:∀ (w w':World) (args:Array Value),w.heap = w'.heap -> X w args -> X w' args)
  (own:ownKnob C.prog.godebug = none) (started:os.Started) (noInit:C.prog.inits.idxOf? f = none) (hfn:C.prog.funcs[f]? = some fn)
  (witness:∃ (w:World) (tape:Tape) (i:Input),w.os = os /\ (w.forCall tape i).Shaped C.prog /\ i.vars = [] /\ Input.okWide C.prog (w.forCall tape i) .any w.heap.size f i /\
   ((s.pre enc C.prog fn conds apart (w.forCall tape i).memory i.args /\ X (w.forCall tape i).memory i.args) /\ sizedMet enc C.prog fn (OpenSpec.ofChange s) apart (w.forCall tape i).memory i.args) /\ a.holds C.prog (lone (Frame.enter C.prog f i.args .normal) [] (w.forCall tape i)))
  (contract:∀ (W:World) (base:Nat) (args:Array Value) (ds gs:List (DataW H)) (before:List MemPlace),W.ShapedOpen C.prog ->
   (∀ (j:Nat) t v,fn.params[j]? = some t -> args[j]? = some v -> Value.okWide C.prog W .any base t v) ->
   DataW.Whole enc C.prog fn.params.toList s.vars apart W args.toList ds gs before -> X W args ->
   Calls C.prog f args W fun e W'=>∃ v,e = .returned v /\ s.post enc C.prog fn apart fresh handsOn again W args v W') :
  ReturnsInHanded a C os f .any (fun w args=>(s.pre enc C.prog fn conds apart w args /\ X w args) /\ sizedMet enc C.prog fn (OpenSpec.ofChange s) apart w args) (s.post enc C.prog fn apart fresh handsOn again):=by
 refine returnsInHanded_of_calls own started noInit witness fun w tape i _ hsh _ hok hpre hholds=>?_
 obtain ⟨_,_,_,g,hg,_,_,_,_,hval⟩:=hok;have e:g = fn:=Option.some.inj (hg.symm.trans hfn);subst e;obtain ⟨⟨⟨ds,gs,before,hw,_⟩,hx⟩,_⟩:=hpre;refine (contract (w.forCall tape i) w.heap.size i.args ds gs before hsh hval (DataW.Whole.of_heap (w':=w.forCall tape i) Zv hw) (same _ _ _ Zv hx)).mono fun e W' ⟨v,he,hp⟩=>?_
 subst he;exact ChangeSpec.post_blind hp
end Go.Proofs.YtiamnbddbmgffaaGreatDoor
namespace Go.Proofs.YtiamnbddbmgffaaGreatDoor
open Go.RowKit
set_option linter.unusedVariables false
def Bx (W:World) (g:Nat) (t:TypeId) (cs:Array Value):Prop:=W.heap[g]? = some (.cells cs t (0,0))
theorem Bx.lt {W:World} {g:Nat} {t:TypeId} {cs:Array Value} (h:Bx W g t cs):g < W.heap.size:=(Array.getElem?_eq_some_iff.1 h).1
theorem Bx.cell {W:World} {g:Nat} {t:TypeId} {cs:Array Value} (h:Bx W g t cs) {k:Nat} {v:Value} (hk:cs[k]? = some v):W.cell? ⟨g,k,none⟩ = some v:=by
 rw [cell_of_row W g k cs t (0,0) h]; exact hk
theorem Bx.free {W:World} {g:Nat} {t:TypeId} {cs:Array Value} (h:Bx W g t cs) (k:Nat):W.frozen? ⟨g,k,none⟩ = false:=frozen_of_row W g k cs t h
theorem Bx.below {W W':World} {g:Nat} {t:TypeId} {cs:Array Value} (h:Bx W g t cs) (hb:Below W.heap.size W W'):Bx W' g t cs:=(hb.block g h.lt).trans h
theorem Bx.keep {W W':World} {g n:Nat} {t:TypeId} {cs:Array Value} (h:Bx W g t cs) (hb:Below n W W') (hn:g < n):Bx W' g t cs:=(hb.block g hn).trans h
theorem Bx.alloc {W:World} {g:Nat} {t:TypeId} {cs:Array Value} (h:Bx W g t cs) (o:Obj):Bx (W.alloc o) g t cs:=(heap_alloc_old _ _ h.lt).trans h
theorem Bx.drew {W:World} {g:Nat} {t:TypeId} {cs:Array Value} (h:Bx W g t cs):Bx W.drew g t cs:=h
theorem Bx.drewN {W:World} {g n:Nat} {t:TypeId} {cs:Array Value} (h:Bx W g t cs):Bx (W.drewN n) g t cs:=h
theorem Bx.new {W:World} {g:Nat} (t:TypeId) (cs:Array Value) (hg:g = W.heap.size):Bx (W.alloc (.cells cs t)) g t cs:=by
 subst hg; exact heap_alloc_new W _
structure Upd (W:World) (g:Nat) (t:TypeId) (cs:Array Value) (W':World):Prop where
 size:W'.heap.size = W.heap.size
 box:Bx W' g t cs
 other:∀ k,k ≠ g -> W'.heap[k]? = W.heap[k]?
 bel:∀ n,n <= g -> Below n W W'
theorem Upd.cell {W W':World} {g:Nat} {t:TypeId} {cs:Array Value} (u:Upd W g t cs W') {p:Addr} (hp:p.block ≠ g):W'.cell? p = W.cell? p:=World.cell?_of_block (w:=W) (u.other p.block hp)
theorem Upd.bx {W W':World} {g h:Nat} {t s:TypeId} {cs ds:Array Value} (u:Upd W g t cs W') (hb:Bx W h s ds) (hp:h ≠ g):Bx W' h s ds:=(u.other h hp).trans hb
theorem Upd.of_setRow {W:World} {g:Nat} {t:TypeId} {old:Array Value} (cs:Array Value) (h:Bx W g t old):Upd W g t cs (W.setRow g cs) :=
 ⟨setRow_size _ _ _,setRow_heap W g old cs t (0,0) h,fun k hk=>setRow_other W g k cs hk,fun n hn=>⟨rfl,rfl,rfl,by rw [setRow_size]; exact Nat.le_refl _,fun k hk=>setRow_other W g k cs Zo⟩⟩
section
variable {P:Program}
theorem run_storeVar_fld (W:World) (g k:Nat) (t ty:TypeId) (cs:Array Value) (v:Value) (h:Bx W g t cs) (hk:k < cs.size) (hi:(P.info? ty).map (·.size) = some 1) (h1:v.oneCell' = true) :
  (storeVar ty ⟨g,k,none⟩ v).run P W = .ok () (W.setRow g (cs.setIfInBounds k v)):=by
 have:=run_storeCells_at (P:=P) g k t [v] 0 cs W h (by simp; omega) (fun x hx=>by simp at hx; subst hx; exact h1);have hc:v.cells = #[v]:=by cases v <;> first | rfl | cases h1
 have e:(cs.toList.take k ++ [v] ++ cs.toList.drop (k + 1)).toArray = cs.setIfInBounds k v:=by
  apply Array.ext';rw [Array.toList_setIfInBounds,List.set_eq_take_append_cons_drop,if_pos (by simpa using hk)];simp
 cases hq:P.info? ty with
 | none=>simp [hq] at hi
 | some i =>
  have hs:i.size = 1:=by simpa [hq] using hi
  simp only [Nat.add_zero,List.length_singleton] at this;rw [e] at this;simp [storeVar,sizeOf,typeInfo,hq,hc,hs,this]
theorem wpList_store_fld {ops:Array Oper} {rest:List Oper} {o:Oper} {a:Act} {w:World} {Q:Exit -> Act -> World -> Prop} (hgd:Region.wanted o (yielded ops a.tmps) = true) (ty:TypeId) (x y:Operand) (ho:o.op = .store ty x y)
  (g k:Nat) (v:Value) (hx:a.eval x = .pointer (some ⟨g,k,none⟩)) (hy:a.eval y = v) (h1:v.oneCell' = true) (t:TypeId) (cs:Array Value) (hb:Bx w g t cs) (hk:k < cs.size) (hi:(P.info? ty).map (·.size) = some 1)
  (h:∀ W',Upd w g t (cs.setIfInBounds k v) W' -> wpList P ops Q rest (a.put o.dst undef) W'):wpList P ops Q (o :: rest) a w :=
 wpList_step fun K hK=>by
  rw [if_pos hgd];unfold Oper.wp execOp;simp only [ho,hx,hy,Instr.storeAt,Instr.sureAddr,Sem.run_bind,Sem.run_pure,Result.andThen_ok,run_storeVar_fld w g k t ty cs v hb hk hi h1];exact hK _ _ (h _ (Upd.of_setRow _ hb))
theorem wpList_store_box {ops:Array Oper} {rest:List Oper} {o:Oper} {a:Act} {w:World} {Q:Exit -> Act -> World -> Prop} (hgd:o.guard = none) (ty:TypeId) (x y:Operand) (ho:o.op = .store ty x y)
  (g:Nat) (cells:Array Value) (hx:a.eval x = .pointer (some ⟨g,0,none⟩)) (hy:a.eval y = .agg cells)
  (t:TypeId) (old:Array Value) (hb:Bx w g t old) (hi:(P.info? ty).map (·.size) = some cells.size)
  (hold:old.size = cells.size) (h1:cells.all (·.oneCell') = true)
  (h:∀ W',Upd w g t cells W' -> wpList P ops Q rest (a.put o.dst undef) W'):wpList P ops Q (o :: rest) a w :=
 wpList_store_row hgd ty x y ho g cells hx hy t old hb hi hold h1 (h _ (Upd.of_setRow _ hb))
theorem exec_load_box {r:Operand -> Value} {o:Oper} {ty:TypeId} {y:Operand} (g:Nat) (t:TypeId) (cs:Array Value) (d:TypeDesc) (w:World) (ho:o.op = .load ty y) (hx:r y = .pointer (some ⟨g,0,none⟩)) (hb:Bx w g t cs)
  (hu:P.underlying ty = some d) (hd:(match d with | .struct _ | .array _ _=>true | _=>false) = true) (hi:(P.info? ty).map (·.size) = some cs.size):(execOp r o).run P w = .ok (.value (.agg cs)) w:=by
 unfold execOp;simp only [ho,hx,Instr.loadAt,Instr.sureAddr,Sem.run_bind,Sem.run_pure,Result.andThen_ok,run_loadVar_row w g t ty cs (0,0) d hb hu hd hi]
theorem wpList_load_box {ops:Array Oper} {rest:List Oper} {o:Oper} {a:Act} {w:World} {Q:Exit -> Act -> World -> Prop} (hgd:Region.wanted o (yielded ops a.tmps) = true) (ty:TypeId) (x:Operand) (ho:o.op = .load ty x)
  (g:Nat) (hx:a.eval x = .pointer (some ⟨g,0,none⟩)) (t:TypeId) (cs:Array Value) (d:TypeDesc) (hb:Bx w g t cs)
  (hu:P.underlying ty = some d) (hd:(match d with | .struct _ | .array _ _=>true | _=>false) = true) (hi:(P.info? ty).map (·.size) = some cs.size)
  (h:wpList P ops Q rest (a.put o.dst (.agg cs)) w):wpList P ops Q (o :: rest) a w :=
 wpList_step fun K hK=>by
  rw [if_pos hgd];unfold Oper.wp;rw [exec_load_box g t cs d w ho hx hb hu hd hi];exact hK _ _ h
theorem wp_alloc_any {o:Oper} {a:Act} {w:World} {K:Act -> World -> Prop} {Q:Exit -> Act -> World -> Prop} (t:TypeId) (cs:Array Value)
  (hrun:(execOp a.eval o).run P w = .ok (.value (.pointer (some ⟨w.heap.size,0,none⟩))) (w.alloc (.cells cs t)))
  (h:∀ g W',w.heap.size <= g -> Bx W' g t cs -> Below w.heap.size w W' -> K (a.put o.dst (.pointer (some ⟨g,0,none⟩))) W'):o.wp P a w K Q:=by
 unfold Oper.wp;rw [hrun];exact h _ _ Zl (Bx.new t cs rfl) ((Below.refl _ _).alloc Zl _)
theorem wp_store_any {o:Oper} {a:Act} {w:World} {K:Act -> World -> Prop} {Q:Exit -> Act -> World -> Prop} (ty:TypeId) (x y:Operand) (ho:o.op = .store ty x y)
  (g:Nat) (cells:Array Value) (hx:a.eval x = .pointer (some ⟨g,0,none⟩)) (hy:a.eval y = .agg cells)
  (t:TypeId) (old:Array Value) (hb:Bx w g t old) (hi:(P.info? ty).map (·.size) = some cells.size)
  (hold:old.size = cells.size) (h1:cells.all (·.oneCell') = true)
  (h:∀ W',Upd w g t cells W' -> K (a.put o.dst undef) W'):o.wp P a w K Q :=
 wp_store_row ty x y ho g cells hx hy t old hb hi hold h1 (h _ (Upd.of_setRow _ hb))
theorem results_box2 {fn:Func} {p q:Tmp} {ty:TypeId} (h:fn.results = #[.cell p ty,.tmp q]) (tmps:Array Value) (w:World) (g:Nat) (t:TypeId) (cs:Array Value) (d:TypeDesc) (v:Value)
  (hp:tmps.getD p undef = .pointer (some ⟨g,0,none⟩)) (hb:Bx w g t cs) (hq:tmps.getD q undef = v)
  (hu:P.underlying ty = some d) (hd:(match d with | .struct _ | .array _ _=>true | _=>false) = true) (hi:(P.info? ty).map (·.size) = some cs.size) :
  (results fn tmps).run P w = .ok (.tuple #[.agg cs,v]) w:=by
 have hp':tmps[p]?.getD undef = .pointer (some ⟨g,0,none⟩):=by simpa using hp
 have hq':tmps[q]?.getD undef = v:=by simpa using hq
 simp [results,h,hp',hq',asAddr,run_loadVar_row w g t ty cs (0,0) d hb hu hd hi]
theorem results_box1 {fn:Func} {p:Tmp} {ty:TypeId} (h:fn.results = #[.cell p ty]) (tmps:Array Value) (w:World) (g:Nat) (t:TypeId) (cs:Array Value) (d:TypeDesc)
  (hp:tmps.getD p undef = .pointer (some ⟨g,0,none⟩)) (hb:Bx w g t cs)
  (hu:P.underlying ty = some d) (hd:(match d with | .struct _ | .array _ _=>true | _=>false) = true) (hi:(P.info? ty).map (·.size) = some cs.size) :
  (results fn tmps).run P w = .ok (.agg cs) w :=
 results_cell_row h tmps w g t cs (0,0) d hp hb hu hd hi
end
end Go.Proofs.YtiamnbddbmgffaaGreatDoor
namespace Go.Proofs.YtiamnbddbmgffaaGreatDoor
set_option linter.unusedVariables false
abbrev Rc:=Int × Int × Int
def rz:Rc:=(0,0,0)
def aloneV (x y z:Int):Int:=if 0 <= x /\ x < 4 then (if (0 <= y /\ y <= 40320) /\ (0 <= z /\ z <= 40320) then (if y < z then 0 else 3) else 4) else 2
def behindV (t y:Int):Int:=if t < y then 5 else if y < t then 6 else 0
theorem alone_zero {x y z:Int}:aloneV x y z = 0 ↔ (0 <= x /\ x < 4) /\ (0 <= y /\ y < z /\ z <= 40320):=by
 unfold aloneV
 repeat' split
 all_goals first | (constructor <;> intro h <;> omega) | (constructor <;> intro h <;> first | omega | (exfalso; omega))
theorem behind_zero {t y:Int}:behindV t y = 0 ↔ y = t:=by
 unfold behindV
 repeat' split
 all_goals (constructor <;> intro h <;> omega)
def faultV (l:List Rc) (k:Nat):Int :=
 if aloneV (l.getD k rz).1 (l.getD k rz).2.1 (l.getD k rz).2.2 = 0 /\ k ≠ 0 then behindV (l.getD (k - 1) rz).2.2 (l.getD k rz).2.1 else aloneV (l.getD k rz).1 (l.getD k rz).2.1 (l.getD k rz).2.2
theorem fault_alone {l:List Rc} {k:Nat} {x y z:Int} (h:l.getD k rz = (x,y,z)) (ha:aloneV x y z ≠ 0):faultV l k = aloneV x y z:=by
 unfold faultV;rw [h,if_neg (fun c=>ha c.1)]
theorem fault_first {l:List Rc} {x y z:Int} (h:l.getD 0 rz = (x,y,z)):faultV l 0 = aloneV x y z:=by
 unfold faultV;rw [h,if_neg (fun c=>c.2 rfl)]
theorem fault_next {l:List Rc} {j:Nat} {x y z a b c:Int} (h:l.getD (j + 1) rz = (x,y,z)) (ha:aloneV x y z = 0) (hp:l.getD j rz = (a,b,c)):faultV l (j + 1) = behindV c y:=by
 unfold faultV;rw [h,if_pos ⟨ha,by omega⟩,show j + 1 - 1 = j by omega,hp]
def checkV (l:List Rc):Nat × Int:=match (List.range l.length).find? (fun j=>faultV l j != 0) with | none=>(0,0) | some j=>(j,faultV l j)
theorem check_ok {l:List Rc} (h:∀ j,j < l.length -> faultV l j = 0):checkV l = (0,0):=by
 unfold checkV
 have e:(List.range l.length).find? (fun j=>faultV l j != 0) = none:=by
  rw [List.find?_eq_none];intro j hj;simp [h j (by simpa using hj)]
 rw [e]
theorem check_bad {l:List Rc} {k:Nat} {e:Int} (hk:k < l.length) (h:∀ j,j < k -> faultV l j = 0) (he:faultV l k = e) (hne:e ≠ 0):checkV l = (k,e):=by
 unfold checkV
 have e1:(List.range l.length).find? (fun j=>faultV l j != 0) = some k:=by
  rw [List.find?_range_eq_some];refine ⟨by simp [he,hne],by simpa using hk,fun j hj=>by simp [h j hj]⟩
 rw [e1,<- he]
theorem check_zero {l:List Rc} (h:(checkV l).2 = 0):∀ j,j < l.length -> faultV l j = 0:=by
 intro j hj
 rcases hf:(List.range l.length).find? (fun j=>faultV l j != 0) with _ | k
 ·rw [List.find?_eq_none] at hf
  have:=hf j (by simpa using hj);simpa using this
 ·have hk:=hf
  rw [List.find?_range_eq_some] at hk;unfold checkV at h;rw [hf] at h;have:=hk.1;simp at this h;exact absurd h this
def Tl (e:Int):List Rc -> Prop
 | []=>True
 | r :: l=>((0 <= r.1 /\ r.1 < 4) /\ (0 <= r.2.1 /\ r.2.1 < r.2.2 /\ r.2.2 <= 40320)) /\ r.2.1 = e /\ Tl r.2.2 l
def beg:List Rc -> Int
 | []=>0
 | r :: _=>r.2.1
def fin:List Rc -> Int
 | []=>0
 | [r]=>r.2.2
 | _ :: r :: l=>fin (r :: l)
theorem Tl.from_ {e:Int} {l:List Rc} (h:Tl e l):Tl (beg l) l:=by
 cases l with
 | nil=>trivial
 | cons r l=>exact ⟨h.1,rfl,h.2.2⟩
theorem tl_of {l:List Rc} {e:Int} (h1:∀ j,j < l.length -> (0 <= (l.getD j rz).1 /\ (l.getD j rz).1 < 4) /\ (0 <= (l.getD j rz).2.1 /\ (l.getD j rz).2.1 < (l.getD j rz).2.2 /\ (l.getD j rz).2.2 <= 40320))
  (h2:l ≠ [] -> (l.getD 0 rz).2.1 = e) (h3:∀ j,j + 1 < l.length -> (l.getD (j + 1) rz).2.1 = (l.getD j rz).2.2):Tl e l:=by
 induction l generalizing e with
 | nil=>trivial
 | cons r l ih =>
  refine ⟨by simpa using h1 0 (by simp),by simpa using h2 (by simp),ih (fun j hj=>by simpa using h1 (j + 1) (by simpa using hj)) (fun hne=>?_) (fun j hj=>by simpa using h3 (j + 1) (by simpa using hj))⟩;have:=h3 0 (by have:=List.length_pos_iff.2 hne; simp; omega);simpa using this
theorem fault_ok {l:List Rc} {k:Nat} (h:faultV l k = 0):aloneV (l.getD k rz).1 (l.getD k rz).2.1 (l.getD k rz).2.2 = 0:=by
 unfold faultV at h;split at h
 ·rename_i c; exact c.1
 ·exact h
theorem check_tl {l:List Rc} (h:(checkV l).2 = 0):Tl (beg l) l:=by
 have hf:=check_zero h;refine tl_of (fun j hj=>alone_zero.1 (fault_ok (hf j hj))) (fun hne=>?_) (fun j hj=>?_)
 ·cases l with
  | nil=>exact absurd rfl hne
  | cons r l=>rfl
 ·have h1:=hf (j + 1) hj
  have h2:=fault_ok h1;unfold faultV at h1;rw [if_pos ⟨h2,by omega⟩,show j + 1 - 1 = j by omega] at h1;exact behind_zero.1 h1
theorem Tl.at_ {l:List Rc} {e:Int} (h:Tl e l):∀ j,j < l.length -> (0 <= (l.getD j rz).1 /\ (l.getD j rz).1 < 4) /\ (0 <= (l.getD j rz).2.1 /\ (l.getD j rz).2.1 < (l.getD j rz).2.2 /\ (l.getD j rz).2.2 <= 40320):=by
 induction l generalizing e with
 | nil=>intro j hj; cases hj
 | cons r l ih =>
  intro j hj
  cases j with
  | zero=>simpa using h.1
  | succ j=>simpa using ih h.2.2 j (by simpa using hj)
theorem Tl.chain {l:List Rc} {e:Int} (h:Tl e l):∀ j,j + 1 < l.length -> (l.getD (j + 1) rz).2.1 = (l.getD j rz).2.2:=by
 induction l generalizing e with
 | nil=>intro j hj; cases hj
 | cons r l ih =>
  intro j hj
  cases j with
  | zero =>
   cases l with
   | nil=>simp at hj
   | cons s l=>simpa using h.2.2.2.1
  | succ j=>simpa using ih h.2.2 j (by simpa using hj)
theorem tl_check {l:List Rc} {e:Int} (h:Tl e l):checkV l = (0,0):=by
 refine check_ok fun j hj=>?_
 have h1:=alone_zero.2 (h.at_ j hj);unfold faultV;rw [h1];split
 ·rename_i c
  obtain ⟨k,rfl⟩:∃ k,j = k + 1:=⟨j - 1,by omega⟩;rw [show k + 1 - 1 = k by omega];exact behind_zero.2 (h.chain k hj)
 ·rfl
def kindsV (l:List Rc):List Int:=l.flatMap fun r=>List.replicate (r.2.2 - r.2.1).toNat r.1
theorem kinds_cons (r:Rc) (l:List Rc):kindsV (r :: l) = List.replicate (r.2.2 - r.2.1).toNat r.1 ++ kindsV l:=rfl
theorem kinds_more {l:List Rc} {k:Nat} {x y z:Int} (h:k < l.length) (hr:l.getD k rz = (x,y,z)):kindsV (l.take (k + 1)) = kindsV (l.take k) ++ List.replicate (z - y).toNat x:=by
 have e:l[k]? = some (x,y,z):=by
  rw [List.getElem?_eq_getElem h];rw [List.getD_eq_getElem?_getD,List.getElem?_eq_getElem h] at hr;simpa using hr
 rw [List.take_add_one,e];simp [kindsV]
theorem Tl.len {l:List Rc} {e:Int} (h:Tl e l):l ≠ [] -> e + ((kindsV l).length:Int) = fin l /\ 0 <= e /\ fin l <= 40320:=by
 induction l generalizing e with
 | nil=>intro h; exact absurd rfl h
 | cons r l ih =>
  intro _;obtain ⟨⟨h1,h2⟩,h3,h4⟩:=h;have hr:((List.replicate (r.2.2 - r.2.1).toNat r.1).length:Int) = r.2.2 - r.2.1:=by simp; omega
  cases l with
  | nil=>rw [kinds_cons]; simp [kindsV,fin]; omega
  | cons s l =>
   have:=ih h4 (by simp);rw [kinds_cons,List.length_append,fin];omega
theorem Tl.short {l:List Rc} {e:Int} (h:Tl e l):(kindsV l).length <= 40320:=by
 cases l with
 | nil=>simp [kindsV]
 | cons r l=>have:=h.len (by simp); omega
theorem Tl.bd {l:List Rc} {e:Int} (h:Tl e l):0 <= beg l /\ beg l + ((kindsV l).length:Int) <= 40320:=by
 cases l with
 | nil=>simp [beg,kindsV]
 | cons r l=>have:=h.from_.len (by simp); omega
theorem kinds_take (l:List Rc) (k:Nat):(kindsV (l.take k)).length <= (kindsV l).length:=by
 have e:kindsV l = kindsV (l.take k) ++ kindsV (l.drop k):=by
  unfold kindsV;rw [<- List.flatMap_append,List.take_append_drop]
 rw [e,List.length_append];omega
end Go.Proofs.YtiamnbddbmgffaaGreatDoor
namespace Go.Proofs.YtiamnbddbmgffaaGreatDoor
open Go.RowKit
set_option linter.unusedVariables false
def RdF (w:World) (A:Option Addr) (l:List Rc):Prop :=
 l ≠ [] -> ∃ b off,A = some ⟨b,off,none⟩ /\ b < w.heap.size /\ ∀ k,k < l.length ->
  w.cell? ⟨b,off + k * 3,none⟩ = some (.int .i64 (l.getD k rz).1) /\ w.cell? ⟨b,off + k * 3 + 1,none⟩ = some (.int .i64 (l.getD k rz).2.1) /\ w.cell? ⟨b,off + k * 3 + 2,none⟩ = some (.int .i64 (l.getD k rz).2.2)
theorem RdF.nil (w:World) (A:Option Addr):RdF w A []:=fun h=>absurd rfl h
theorem RdF.at_ {w:World} {A:Option Addr} {l:List Rc} (h:RdF w A l) {k:Nat} (hk:k < l.length):∃ b off x y z,A = some ⟨b,off,none⟩ /\ b < w.heap.size /\
  w.cell? ⟨b,off + k * 3,none⟩ = some (.int .i64 x) /\ w.cell? ⟨b,off + k * 3 + 1,none⟩ = some (.int .i64 y) /\ w.cell? ⟨b,off + k * 3 + 2,none⟩ = some (.int .i64 z) /\ Hid (l.getD k rz = (x,y,z)):=by
 obtain ⟨b,off,hA,hb,hc⟩:=h (nonnil hk);exact ⟨b,off,_,_,_,hA,hb,(hc k hk).1,(hc k hk).2.1,(hc k hk).2.2,Zh rfl⟩
theorem RdF.below {w w':World} {A:Option Addr} {l:List Rc} (h:RdF w A l) (hb:Below w.heap.size w w'):RdF w' A l:=fun hl=>by
 obtain ⟨b,off,hA,hbb,hk⟩:=h hl;exact ⟨b,off,hA,Nat.lt_of_lt_of_le hbb hb.size,fun k hk'=>⟨by rw [hb.cell (p:=⟨b,_,none⟩) hbb]; exact (hk k hk').1,by rw [hb.cell (p:=⟨b,_,none⟩) hbb]; exact (hk k hk').2.1,by rw [hb.cell (p:=⟨b,_,none⟩) hbb]; exact (hk k hk').2.2⟩⟩
def flatF (l:List Rc):List Value:=l.flatMap fun s=>[.int .i64 s.1,.int .i64 s.2.1,.int .i64 s.2.2]
theorem flatF_cons (s:Rc) (l:List Rc):flatF (s :: l) = .int .i64 s.1 :: .int .i64 s.2.1 :: .int .i64 s.2.2 :: flatF l:=rfl
theorem flatF_append (a b:List Rc):flatF (a ++ b) = flatF a ++ flatF b:=by simp [flatF]
theorem flatF_len (l:List Rc):(flatF l).length = l.length * 3:=by
 induction l with
 | nil=>rfl
 | cons s l ih=>rw [flatF_cons,List.length_cons,List.length_cons,List.length_cons,ih,List.length_cons]; omega
theorem flatF_get:∀ (l:List Rc) (k:Nat),k < l.length -> (flatF l)[k * 3]? = some (.int .i64 (l.getD k rz).1) /\ (flatF l)[k * 3 + 1]? = some (.int .i64 (l.getD k rz).2.1) /\ (flatF l)[k * 3 + 2]? = some (.int .i64 (l.getD k rz).2.2)
 | s :: l,0,_=>by simp [flatF_cons]
 | s :: l,k + 1,h=>by
  have ih:=flatF_get l k (by simpa using h);have e:(k + 1) * 3 = k * 3 + 1 + 1 + 1:=by omega
  rw [e,flatF_cons];simpa using ih
theorem flatF_one {l:List Rc} {u:Value} (h:u ∈ flatF l):u.oneCell' = true:=by
 obtain ⟨s,_,hs⟩:=List.mem_flatMap.1 h;simp at hs
 rcases hs with rfl | rfl | rfl <;> rfl
def OwnF (base:Nat) (w:World) (v:Value) (l:List Rc):Prop:=w.ownsRow base 52 3 v l.length (flatF l)
theorem OwnF.nil (base:Nat) (w:World):OwnF base w (.slice none 0 0) []:=World.ownsRow_nil w base _ 3
theorem OwnF.read {base:Nat} {w:World} {v:Value} {l:List Rc} (h:OwnF base w v l):∃ A c,v = .slice A l.length c /\ RdF w A l /\ (A = none -> c = 0):=by
 have h0:=h
 rcases h.2 with ⟨rfl,hn⟩ | ⟨g,cap,cur,rfl,hb,hg,h1,h2,h3,h4⟩
 ·obtain rfl:l = []:=List.eq_nil_of_length_eq_zero hn
  exact ⟨none,0,rfl,RdF.nil _ _,fun _=>rfl⟩
 ·refine ⟨some ⟨g,0,none⟩,cap,rfl,fun _=>⟨g,0,rfl,(World.ownsRow.lt h0 g rfl).2,fun k hk=>?_⟩,fun h=>by cases h⟩
  have hf:=flatF_get l k hk;rw [Nat.zero_add,World.ownsRow.cellAt h0 (k * 3) Zo,World.ownsRow.cellAt h0 (k * 3 + 1) Zo,World.ownsRow.cellAt h0 (k * 3 + 2) Zo];exact hf
theorem OwnF.rd {base:Nat} {w:World} {A:Option Addr} {n c:Nat} {l:List Rc} (h:OwnF base w (.slice A n c) l):RdF w A l:=by
 obtain ⟨A',c',he,hr,_⟩:=h.read;injection he with e1 e2 e3
 rw [e1]; exact hr
theorem OwnF.below {base:Nat} {w w':World} {v:Value} {l:List Rc} (h:OwnF base w v l) (hb:Below w.heap.size w w'):OwnF base w' v l:=row_below h hb
theorem OwnF.more {base base':Nat} {w:World} {v:Value} {l:List Rc} (h:OwnF base w v l) (hb:base' <= base):OwnF base' w v l:=row_more h hb
theorem OwnF.alloc {base:Nat} {w:World} {v:Value} {l:List Rc} (h:OwnF base w v l) (o:Obj):OwnF base (w.alloc o) v l:=World.ownsRow.alloc h o
theorem OwnF.snoc {base:Nat} {w:World} {v:Value} {l:List Rc} {k x y:Int} (h:w.ownsRow base 52 3 v (l.length + 1) (flatF l ++ [.int .i64 k,.int .i64 x,.int .i64 y])):OwnF base w v (l ++ [(k,x,y)]):=by
 unfold OwnF;rw [flatF_append,List.length_append];exact h
theorem OwnF.some_ {base:Nat} {w:World} {b off n c:Nat} {l:List Rc} (h:OwnF base w (.slice (some ⟨b,off,none⟩) n c) l):off = 0 /\ base <= b /\ ∀ j,w.frozen? ⟨b,j,none⟩ = false:=by
 rcases h.2 with ⟨h',_⟩ | ⟨g,cap,cur,h',hb,hg,_⟩
 ·simp at h'
 ·simp only [Value.slice.injEq,Option.some.injEq,Addr.mk.injEq,and_true] at h'
  obtain ⟨⟨rfl,rfl⟩,_,rfl⟩:=h';exact ⟨rfl,hb,fun j=>by simp [World.frozen?,hg]⟩
theorem info_find:(Tryz.prog.info? 52).map (fun i=>(i.zero,i.size,i.bytes)) = some (some (.agg #[.int .i64 0,.int .i64 0,.int .i64 0]),3,24):=by kernel_rfl
theorem find_news {w:World} {n:Nat} (hn:n = w.heap.size) {k x y:Int} {t:TypeId}:∀ j u,([.int .i64 k,.int .i64 x,.int .i64 y]:List Value)[j]? = some u -> (w.alloc (.cells #[.int .i64 k,.int .i64 x,.int .i64 y] t)).cell? ((⟨n,0,none⟩:Addr).add j) = some u:=by
 intro j u hj;subst hn
 match j,hj with
 | 0,hj=>simp at hj; subst hj; simp [Addr.add]
 | 1,hj=>simp at hj; subst hj; simp [Addr.add]
 | 2,hj=>simp at hj; subst hj; simp [Addr.add]
 | j + 3,hj=>simp at hj
theorem find_cells {k x y:Int}:∀ u ∈ ([.int .i64 k,.int .i64 x,.int .i64 y]:List Value),u.oneCell' = true:=by
 intro u hu;simp at hu
 rcases hu with rfl | rfl | rfl <;> rfl
theorem RdF.news {w:World} {ad:Addr} {l:List Rc} (h:RdF w (some ad) l):∀ j u,(flatF l)[j]? = some u -> w.cell? (ad.add j) = some u:=by
 intro j u hu
 have hj:j < l.length * 3:=by
  rw [<- flatF_len];exact (List.getElem?_eq_some_iff.1 hu).1
 obtain ⟨b,off,hA,_,hc⟩:=h (nonnil (k:=j / 3) Zo);injection hA with hA
 subst hA;have hk:j / 3 < l.length:=by omega
 have hf:=flatF_get l (j / 3) hk;have hcc:=hc (j / 3) hk;rw [addr_plain];have hm:j = j / 3 * 3 ∨ j = j / 3 * 3 + 1 ∨ j = j / 3 * 3 + 2:=by omega
 rcases hm with e | e | e
 ·rw [e,hf.1] at hu
  injection hu with hu
  rw [e,<- hu]; exact hcc.1
 ·rw [e,hf.2.1] at hu
  injection hu with hu
  rw [e,<- hu,<- Nat.add_assoc]; exact hcc.2.1
 ·rw [e,hf.2.2] at hu
  injection hu with hu
  rw [e,<- hu,<- Nat.add_assoc]; exact hcc.2.2
end Go.Proofs.YtiamnbddbmgffaaGreatDoor
namespace Go.Proofs.YtiamnbddbmgffaaGreatDoor
set_option linter.unusedVariables false
abbrev Sp:=Int × Int
def hasS (s:Sp) (m:Int):Bool:=decide (s.1 <= m) && decide (m < s.2)
def hasL (l:List Sp) (m:Int):Bool:=l.any (fun s=>hasS s m)
theorem hasL_iff {l:List Sp} {m:Int}:hasL l m = true ↔ ∃ s ∈ l,s.1 <= m /\ m < s.2:=by
 simp [hasL,hasS]
theorem hasL_no {l:List Sp} {m:Int}:hasL l m = false ↔ ∀ s ∈ l,¬ (s.1 <= m /\ m < s.2):=by
 constructor
 ·intro h s hs hm
  have:hasL l m = true:=hasL_iff.2 ⟨s,hs,hm⟩;rw [h] at this; cases this
 ·intro h
  cases hh:hasL l m with
  | false=>rfl
  | true =>
   obtain ⟨s,hs,hm⟩:=hasL_iff.1 hh;exact absurd hm (h s hs)
def okAt (l:List Sp) (k:Nat):Bool:=decide ((l.getD k (0,0)).1 < (l.getD k (0,0)).2) && (decide (k = 0) || decide ((l.getD (k - 1) (0,0)).2 < (l.getD k (0,0)).1))
def rightB (l:List Sp):Bool:=(List.range l.length).all (okAt l)
theorem rightB_no {l:List Sp} {k:Nat} (hk:k < l.length) (h:okAt l k = false):rightB l = false:=by
 cases hh:rightB l with
 | false=>rfl
 | true =>
  have:=List.all_eq_true.1 hh k (List.mem_range.2 hk);rw [h] at this; cases this
theorem rightB_yes {l:List Sp} (h:∀ k,k < l.length -> okAt l k = true):rightB l = true :=
 List.all_eq_true.2 fun k hk=>h k (List.mem_range.1 hk)
end Go.Proofs.YtiamnbddbmgffaaGreatDoor
namespace Go.Proofs.YtiamnbddbmgffaaGreatDoor
open Go.RowKit
set_option linter.unusedVariables false
def RdS (w:World) (A:Option Addr) (l:List Sp):Prop :=
 l ≠ [] -> ∃ b off,A = some ⟨b,off,none⟩ /\ b < w.heap.size /\ ∀ k,k < l.length ->
  w.cell? ⟨b,off + k * 2,none⟩ = some (.int .i64 (l.getD k (0,0)).1) /\ w.cell? ⟨b,off + k * 2 + 1,none⟩ = some (.int .i64 (l.getD k (0,0)).2)
theorem RdS.nil (w:World) (A:Option Addr):RdS w A []:=fun h=>absurd rfl h
theorem ne_nil_of_lt {l:List Sp} {k:Nat} (h:k < l.length):l ≠ []:=by
 intro e; subst e; cases h
theorem RdS.at_ {w:World} {A:Option Addr} {l:List Sp} (h:RdS w A l) {k:Nat} (hk:k < l.length):∃ b off x y,A = some ⟨b,off,none⟩ /\ b < w.heap.size /\
  w.cell? ⟨b,off + k * 2,none⟩ = some (.int .i64 x) /\ w.cell? ⟨b,off + k * 2 + 1,none⟩ = some (.int .i64 y) /\ Hid (l.getD k (0,0) = (x,y)):=by
 obtain ⟨b,off,hA,hb,hc⟩:=h (ne_nil_of_lt hk);exact ⟨b,off,_,_,hA,hb,(hc k hk).1,(hc k hk).2,Zh rfl⟩
theorem RdS.keep {w w':World} {A:Option Addr} {l:List Sp} (h:RdS w A l) (hs:w.heap.size <= w'.heap.size) (hc:∀ p:Addr,p.block < w.heap.size -> w'.cell? p = w.cell? p):RdS w' A l:=fun hl=>by
 obtain ⟨b,off,hA,hb,hk⟩:=h hl;exact ⟨b,off,hA,by omega,fun k hk'=>⟨by rw [hc _ hb]; exact (hk k hk').1,by rw [hc _ hb]; exact (hk k hk').2⟩⟩
theorem RdS.below {w w':World} {A:Option Addr} {l:List Sp} (h:RdS w A l) (hb:Below w.heap.size w w'):RdS w' A l :=
 h.keep hb.size fun _ hp=>hb.cell hp
end Go.Proofs.YtiamnbddbmgffaaGreatDoor
