/-
 A law for 'for x := range seq' where seq keeps one variable of its own in a box: what the caller owes is an invariant that a store into that box does not disturb, and one walk of the loop's body.
 Conditions: the loop stands in no other loop's round; the iterator's contract is given at each loop record.
-/
import Derived.RangeFuncBox
import Derived.RangeFuncLeaves
import Derived.Shelf.Abstract
import Derived.Test.YteloiajocjahmaaGreatDoorSGCodM
import Derived.Test.YteloiajocjahmaaGreatDoorProg
import Derived.WalkKit
import Derived.OwnWalkIn
import Derived.TacticsInMore
import Derived.LoopNIn
import Derived.LoopIn
import Derived.RangeFuncBound
import Derived.RangeFuncCalls
import Derived.Outline
import Derived.Test.YteloiajocjahmaaGreatDoorSGTxt
import Derived.Maps.AppendAt
import Derived.Deep.DeepMust
import Derived.Lib.Hide
set_option linter.unusedVariables false
set_option linter.unusedSimpArgs false
namespace Go.Proofs.YteloiajocjahmaaGreatDoor
open Go.RowKit

/-- What a round keeps for the iterator: its own box. -/
def KeepsBox (bn : Nat) (t : TypeId) (W W' : World) : Prop := ∀ v, Boxed W bn t v → Boxed W' bn t v

theorem KeepsBox.put {bn : Nat} {t : TypeId} {A W : World} (h : KeepsBox bn t A W) {l : Nat} {o : Obj} (o' : Obj) (hl : W.heap[l]? = some o) (ho : o.isCells = false) : KeepsBox bn t A (W.putObj l o') := fun v hv =>
 (h v hv).kept (grownBy_putObj' W l o') (fun e => by
  have := h v hv
  cases e
  rw [show W.heap[bn]? = _ from this] at hl; cases hl; cases ho)

theorem KeepsBox.of_put {bn : Nat} {t : TypeId} {A W : World} {l : Nat} {o o' : Obj} (hl : A.heap[l]? = some o) (ho : o.isCells = false) (h : KeepsBox bn t (A.putObj l o') W) : KeepsBox bn t A W := fun v hv =>
 h v ((show KeepsBox bn t A A from fun _ k => k).put o' hl ho v hv)

/-- How a round's body may be left. -/
def RoundEnd {α : Type} (bn : Nat) (t : TypeId) (I : List α → World → Prop) (Ix : Code → List α → World → Prop) (ys : List α) (W : World) : Exit → Act → World → Prop
 | .normal, _, W' => KeepsOthers W W' ∧ KeepsBox bn t W W' ∧ I ys W'
 | .ret, _, W' => KeepsOthers W W' ∧ Ix .ret ys W'
 | .exit id, _, W' => KeepsOthers W W' ∧ Ix (.exit id) ys W'
 | .goto g, _, W' => KeepsOthers W W' ∧ Ix (.goto g) ys W'
 | .panic _, _, _ => False
 | .outgrown, _, _ => False

/-- What the iterator promises, at every loop. -/
def Hands {α : Type} (F : Fence) (n : Nat) (P : Program) (gf : Nat) (lb : Array Value) (encs : α → Array Value) (bn : Nat) (t : TypeId) (xs : List α) (w : World) : Prop :=
 ∀ (l : Nat) (J Jx : List α → World → Prop) (W : World), Below w.heap.size w W → (∀ s A v, J s A → J s (A.setCell ⟨bn, 0, none⟩ v)) →
  (∀ pre x W1, J pre W1 → pre ++ [x] <+: xs → YieldAt F (n - 1) P l (encs x) W1 fun e W' =>
   (e = .returned (.bool true) ∧ J (pre ++ [x]) W' ∧ KeepsBox bn t W1 W') ∨ (e = .returned (.bool false) ∧ Jx (pre ++ [x]) W')) →
  J [] W →
  CallsIn F n P gf (#[.func (.yield l) #[] #[]] ++ lb) W fun e W' => (∃ v, e = .returned v) ∧ (J xs W' ∨ ∃ pre, pre <+: xs ∧ Jx pre W')

variable {F : Fence} {n : Nat} {P : Program}

theorem range_box {α : Type} {g : Operand} {ps : Array Tmp} {assign body : Code} {Q : Exit → Act → World → Prop} {a : Act} {w : World}
  (hro : F.round = none) (h1 : 1 ≤ n) {gf : Nat} {lb : Array Value} (hg : a.eval g = .func (.func gf) #[] lb) (hFg : F.fn gf) (eg : ∀ args w, (callFunc gf args).run P w = .ok (.enter gf args) w)
  {encs : α → Array Value} {bn : Nat} {t : TypeId} {xs : List α} (hseq : Hands F (n - 1) P gf lb encs bn t xs w) (hps : ∀ x, (encs x).size = ps.size)
  (I : List α → World → Prop) (Ix : Code → List α → World → Prop) (hI : OwnFrom w.heap.size I) (hIx : ∀ c, OwnFrom w.heap.size (Ix c)) (hIb : ∀ s A v, I s A → I s (A.setCell ⟨bn, 0, none⟩ v)) (h0 : I [] w) (a₁ : α → Act)
  (hassign : ∀ (l : Nat) (x : α) (W : World) (K : Act → World → Prop), K (a₁ x) W →
   assign.wpIn (F.inRound l) (n - 1 - 1) P (Exit.then K (fun _ _ _ => False)) { tmps := (ps.zip (encs x)).foldl (fun t (p, v) => t.setIfInBounds p v) a.tmps, defers := [] } W)
  (hbody : ∀ (l : Nat) (pre : List α) (x : α) (W : World), I pre W → pre ++ [x] <+: xs → body.wpIn (F.inRound l) (n - 1 - 1) P (RoundEnd bn t I Ix (pre ++ [x]) W) (a₁ x) W)
  (hdone : ∀ (D : Nat) (W : World), w.heap.size ≤ D → I xs W → W.heap[D]? = some (.deferred (some [])) → Q .normal { a with defers := { target := .collected D, args := #[] } :: a.defers } W)
  (hstop : ∀ (D : Nat) (c : Code) (pre : List α) (W : World), w.heap.size ≤ D → pre <+: xs → Ix c pre W → W.heap[D]? = some (.deferred (some [])) → c.wpIn F n P Q { a with defers := { target := .collected D, args := #[] } :: a.defers } W) :
  (Code.rangeFunc g ps assign body).wpIn F n P Q a w := by
 refine wpIn_rangeFunc fun fn hfn => ?_
 rw [hro]
 let D := w.heap.size
 let rc : LoopState → Option Code → Loop := fun st pe => { state := st, pending := pe, fn, tmps := a.tmps, params := ps, assign, body, defers := D }
 let W1 : World := (w.alloc (.deferred (some []))).alloc (.loop (rc .ready none))
 have hD1 : W1.heap[D]? = some (.deferred (some [])) := (Below.heap_alloc _ _ _ (by simp [D])).trans (World.alloc_heap_new w _)
 have hL1 : W1.heap[D + 1]? = some (.loop (rc .ready none)) := by
  have := World.alloc_heap_new (w.alloc (.deferred (some []))) (.loop (rc .ready none))
  rwa [World.size_alloc] at this
 have hB1 : Below w.heap.size w W1 := ((Below.refl _ w).alloc (Nat.le_refl _) _).alloc (by simp) _
 -- the two blocks of the loop's own, through a step that leaves alone what is no cells
 let Bk : LoopState → Option Code → World → Prop := fun st pe W => W.heap[D + 1]? = some (.loop (rc st pe)) ∧ W.heap[D]? = some (.deferred (some []))
 have bkKeep : ∀ {st : LoopState} {pe : Option Code} {A B : World}, Bk st pe A → KeepsOthers A B → Bk st pe B := fun hA hk => ⟨hk.same _ _ hA.1 rfl, hk.same _ _ hA.2 rfl⟩
 have bkTurn : ∀ {st st' : LoopState} {pe pe' : Option Code} {A : World}, Bk st pe A → Bk st' pe' (A.putObj (D + 1) (.loop (rc st' pe'))) := fun hA =>
  ⟨World.putObj_heap_same (Array.getElem?_eq_some_iff.1 hA.1).1, (World.putObj_heap_other (by omega)).trans hA.2⟩
 have turnI : ∀ {s : List α} {K : List α → World → Prop} {st st' : LoopState} {pe pe' : Option Code} {A : World}, OwnFrom w.heap.size K → K s A → Bk st pe A → K s (A.putObj (D + 1) (.loop (rc st' pe'))) := fun hK hs hA =>
  hK.putObj _ hs (Nat.le_succ _) hA.1 rfl
 refine ⟨D + 1, [{ target := .collected D, args := #[] }], W1, { target := .fn (.func gf) lb, args := #[.func (.yield (D + 1)) #[] #[]] }, W1, gf, #[.func (.yield (D + 1)) #[] #[]] ++ lb, W1,
  run_enterLoop_outer _ _ _ _ _, by simp only [resolve, hg]; simp [go_sem], fun f' hf' => by simp [Target.leads] at hf'; subst hf'; exact hFg, by simp [invoke, go_sem, eg], fun _ => h1, ?_⟩
 refine (hseq (D + 1) (fun pre W => I pre W ∧ Bk .ready none W) (fun pre W => ∃ c, Ix c pre W ∧ Bk .done (some c) W) W1 hB1
  (fun s A v hs => ⟨hIb s A v hs.1, bkKeep hs.2 (KeepsOthers.setCell A _ v)⟩) ?_ ⟨hI.alloc _ (hI.alloc _ h0), hL1, hD1⟩).mono ?_
 ·rintro pre x W ⟨hi, hb⟩ hx
  have hy := run_yield (P := P) (args := encs x) hb.1 (hps x)
  refine ⟨fn, _, assign, body, hy, roundIn_of_wpIn hfn (hassign _ x W _ ⟨_, run_beginRound hb.1 rfl, ?_⟩)⟩
  have hb2 : Bk .busy none (W.putObj (D + 1) (.loop (rc .busy none))) := bkTurn hb
  refine wpIn_mono (hbody _ pre x _ (turnI (st' := .busy) (pe' := none) hI hi hb) hx) ?_
  have fin : ∀ (jump : Option Code) (W3 : World), KeepsOthers (W.putObj (D + 1) (.loop (rc .busy none))) W3 → Bk .busy none W3 ∧
    (Instr.endRound (D + 1) jump).run P W3 = .ok (.bool jump.isNone) (W3.putObj (D + 1) (.loop (rc (if jump.isNone then .ready else .done) jump))) := fun jump W3 hk => by
   have h3 := bkKeep hb2 hk
   exact ⟨h3, run_endRound (P := P) jump h3.1⟩
  rintro e a3 W3 hp
  cases e with
  | normal =>
   obtain ⟨hk, hbx, hi3⟩ := hp
   obtain ⟨h3, hr⟩ := fin none W3 hk
   exact ⟨_, _, hr, .inl ⟨rfl, ⟨turnI (st' := .ready) (pe' := none) hI hi3 h3, bkTurn h3⟩, (KeepsBox.of_put hb.1 rfl hbx).put _ h3.1 rfl⟩⟩
  | ret =>
   obtain ⟨hk, hi3⟩ := hp
   obtain ⟨h3, hr⟩ := fin (some .ret) W3 hk
   exact ⟨_, _, hr, .inr ⟨rfl, .ret, turnI (st' := .done) (pe' := some .ret) (hIx _) hi3 h3, bkTurn h3⟩⟩
  | exit id =>
   obtain ⟨hk, hi3⟩ := hp
   obtain ⟨h3, hr⟩ := fin (some (.exit id)) W3 hk
   exact ⟨_, _, hr, .inr ⟨rfl, .exit id, turnI (st' := .done) (pe' := some (.exit id)) (hIx _) hi3 h3, bkTurn h3⟩⟩
  | goto gt =>
   obtain ⟨hk, hi3⟩ := hp
   obtain ⟨h3, hr⟩ := fin (some (.goto gt)) W3 hk
   exact ⟨_, _, hr, .inr ⟨rfl, .goto gt, turnI (st' := .done) (pe' := some (.goto gt)) (hIx _) hi3 h3, bkTurn h3⟩⟩
  | panic ch => exact hp.elim
  | outgrown => exact hp.elim
 ·rintro e W2 ⟨⟨v, rfl⟩, (⟨hi, hb⟩ | ⟨pre, hpre, c, hi, hb⟩)⟩
  ·exact ⟨none, _, run_endLoop (P := P) hb.1 (by simp [rc]), hdone D _ (Nat.le_refl _) (turnI (st' := .exhausted) (pe' := none) hI hi hb) ((World.putObj_heap_other (by omega)).trans hb.2)⟩
  ·exact ⟨some c, _, run_endLoop (P := P) hb.1 (by simp [rc]), hstop D c pre _ (Nat.le_refl _) hpre (turnI (st' := .exhausted) (pe' := some c) (hIx c) hi hb) ((World.putObj_heap_other (by omega)).trans hb.2)⟩
open Go.RowKit Go.Shelf

attribute [local go_sem] Oper.semAt_some

set_option maxRecDepth 100000 in
set_option maxHeartbeats 2000000 in
theorem digits1_in (F : Fence) (n : Nat) (hf : F.fn 98) (hro : F.round = none) (hn : 1 ≤ n) (l bn N : Nat) (hN : N ≤ 9223372036854775807) (J Jx : List (Int × Bool) → World → Prop)
  (hJ : ∀ s A v, J s A → J s (A.setCell ⟨bn, 0, none⟩ v))
  (hY : ∀ pre x W, J pre W → pre ++ [x] <+: upto (dg N) 5 → YieldAt F (n - 1) Tryz.prog l #[.int .i64 x.1, .bool x.2] W fun e W' =>
   (e = .returned (.bool true) ∧ J (pre ++ [x]) W' ∧ KeepsBox bn 3 W W') ∨ (e = .returned (.bool false) ∧ Jx (pre ++ [x]) W'))
  (W : World) (hb : Boxed W bn 3 (.int .i64 N)) (h0 : J [] W) :
  CallsIn F n Tryz.prog 98 #[.func (.yield l) #[] #[], .pointer (some ⟨bn, 0, none⟩)] W fun e W' => (∃ v, e = .returned v) ∧ (J (upto (dg N) 5) W' ∨ ∃ pre, pre <+: upto (dg N) 5 ∧ Jx pre W') := by
 refine callsIn_of_wp Tryz.func98 rfl hf ?_ hro
 simp only [Tryz.ntmps98, List.size_toArray, List.length_cons, List.length_nil, Nat.reduceAdd, Nat.reduceSub, Array.replicate_succ, Array.replicate_zero, List.push_toArray, List.append_toArray, List.nil_append, List.cons_append]
 gi_wp2
 gi_loopw [3] (fun i wr => ∃ k : Nat, k ≤ 5 ∧ i = .int .i64 k ∧ J (upto (dg N) k) wr ∧ Boxed wr bn 3 (.int .i64 (dv N k)))
  (fun i _ => 5 - (intOf i).toNat)
 case atStart => exact ⟨0, Nat.zero_le _, rfl, h0, hb⟩
 case round =>
  obtain ⟨k, hk, rfl, hJs, hbx⟩ := hrel
  by_cases hlt : k < 5
  ·obtain ⟨fn, tmps, assign, body, hy, hR⟩ := hY _ (dg N k) wr hJs (by rw [← upto_succ]; exact upto_prefix _ (by omega))
   have hc := hbx.cell
   have hfz := hbx.frozen
   have hdv : dv N k ≤ 9223372036854775807 := Nat.le_trans (dv_le N k) hN
   dsimp only [dg] at hy
   gi_wp2
   refine hR.mono ?_
   rintro e W3 (⟨rfl, hJ3, hk3⟩ | ⟨rfl, hJx3⟩)
   ·have hb3 := hk3 _ hbx
    have hc3 := hb3.cell
    have hf3 := hb3.frozen
    gi_wp2
    go_roundw
    case rel => exact ⟨k + 1, by omega, by simp, by rw [upto_succ]; exact hJ _ _ _ hJ3, by rw [dv_succ]; exact hb3.set _⟩
    case measure => simp [intOf]; omega
   ·gi_wp2
    refine bodyPost_ret (results_none rfl _ _ _) rfl ?_
    exact ⟨⟨_, rfl⟩, .inr ⟨_, by rw [← upto_succ]; exact upto_prefix _ (by omega), hJx3⟩⟩
  ·obtain rfl : k = 5 := by omega
   gi_wp2
   go_end0
   exact ⟨⟨_, rfl⟩, .inl hJs⟩

set_option maxHeartbeats 1000000 in
theorem digits_in (F : Fence) (n : Nat) (hf : F.fn 61) (hro : F.round = none) (N : Int) (w : World) :
  CallsIn F n Tryz.prog 61 #[.int .i64 N] w fun e w' => e = .returned (.func (.func 98) #[] #[.pointer (some ⟨w.heap.size, 0, none⟩)]) ∧ w' = w.alloc (.cells #[.int .i64 N] 3) := by
 refine callsIn_of_wp Tryz.func61 rfl hf ?_ hro
 simp only [Tryz.ntmps61, List.size_toArray, List.length_cons, List.length_nil, Nat.reduceAdd, Nat.reduceSub, Array.replicate_succ, Array.replicate_zero, List.push_toArray, List.append_toArray, List.nil_append, List.cons_append]
 gi_wp2
 go_ret
 exact ⟨rfl, rfl⟩

attribute [local go_sem] Oper.semAt_some

/-- The bytes collected so far, and the iterator's box. -/
def Col (n₀ B bn : Nat) (pre : List (Int × Bool)) (W : World) : Prop :=
 (∃ v, Boxed W B 22 v ∧ W.ownsRow n₀ 5 1 v pre.length (pre.map fun x => u8 (byt x))) ∧ ∃ u, Boxed W bn 3 u

theorem Col.own (n₀ B bn : Nat) : Own (Col n₀ B bn) := by
 rintro s X Y row ⟨⟨v, hv, hr⟩, u, hu⟩ hg hrow
 have nb : ∀ {k t v}, Boxed X k t v → some k ≠ row := fun hk e => by
  obtain ⟨o, ho, hc⟩ := hrow _ e.symm
  rw [show X.heap[_]? = _ from hk] at ho; cases ho; cases hc
 refine ⟨⟨v, hv.kept hg (nb hv), hr.kept hg ?_⟩, u, hu.kept hg (nb hu)⟩
 rcases hr.2 with ⟨rfl, _⟩ | ⟨g, cap, cur, rfl, _, hgb, _⟩
 ·exact .inl rfl
 ·refine .inr fun e' => ?_
  obtain ⟨o, ho, hc⟩ := hrow g (by simpa [Value.ownBlock] using e'.symm)
  rw [hgb] at ho; cases ho; cases hc

theorem Col.box {n₀ B bn : Nat} {pre : List (Int × Bool)} {W : World} (hne : B ≠ bn) (v : Value) (h : Col n₀ B bn pre W) : Col n₀ B bn pre (W.setCell ⟨bn, 0, none⟩ v) := by
 obtain ⟨⟨x, hx, hr⟩, u, hu⟩ := h
 exact ⟨⟨x, hx.kept (grownBy_setCell' W bn v) (fun e => hne (by injection e)), hr.kept (grownBy_setCell' W bn v) (.inr (fun e => (hu.not_row (by decide) hr) e.symm))⟩, v, hu.set v⟩

theorem keepsBox_appended {W w1 : World} {n₀ B bn : Nat} {t e : TypeId} {size k : Nat} {v : Value} {xs : List Value} {tmp : Obj} (hte : t ≠ e) (hrow : W.ownsRow n₀ e size v k xs) (hgrow : (W.alloc tmp).grownBy w1 v.ownBlock) (hne : bn ≠ B) (v' : Value) :
  KeepsBox bn t W (w1.setCell ⟨B, 0, none⟩ v') := fun _ h =>
 ((h.alloc tmp).kept hgrow (h.not_row hte hrow)).kept (grownBy_setCell' w1 B v') (fun e => hne (by injection e))

theorem u8_last {x : Int × Bool} (h0 : 0 ≤ x.1) (h1 : x.1 < 128) (h : x.2 = true) : u8 (byt x) = .int .u8 x.1 := by
 have e : ((x.1.toNat % 256 : Nat) : Int) = x.1 := by omega
 simp [u8, byt, h, UInt8.toNat_ofNat', e]
theorem u8_more {x : Int × Bool} (h0 : 0 ≤ x.1) (h1 : x.1 < 128) (h : x.2 = false) : u8 (byt x) = .int .u8 (x.1 + 128) := by
 have e : (((x.1 + 128).toNat % 256 : Nat) : Int) = x.1 + 128 := by omega
 simp [u8, byt, h, UInt8.toNat_ofNat', e]

set_option maxRecDepth 100000 in
set_option maxHeartbeats 2000000 in
theorem put_in (F : Fence) (n : Nat) (hf : F.fn 23) (hf1 : F.fn 61) (hf2 : F.fn 98) (hro : F.round = none) (hn : 3 ≤ n) (N : Nat) (hN : N ≤ 2147483647) (w : World) :
  CallsIn F n Tryz.prog 23 #[.int .i64 N] w fun e W' => ∃ v, e = .returned (.tuple #[v, .int .i64 0]) ∧ W'.ownsRow w.heap.size 5 1 v (bytesOf N).length ((bytesOf N).map u8) ∧ Below w.heap.size w W' := by
 have h1 : 1 ≤ n := by omega
 obtain ⟨i0, hi, hz0, hz1, hz2⟩ := info_parts infoByte
 have g1 : decide ((N : Int) < 0) = false := decide_eq_false (by omega)
 have g2 : decide (2147483647 < (N : Int)) = false := decide_eq_false (by omega)
 refine callsIn_of_wp_marks Tryz.func23 rfl hf ?_ hro
 simp only [Tryz.ntmps23, List.size_toArray, List.length_cons, List.length_nil, Nat.reduceAdd, Nat.reduceSub, Array.replicate_succ, Array.replicate_zero, List.push_toArray, List.append_toArray, List.nil_append, List.cons_append]
 gi_wp2_with (gi_at_call 61; refine (digits_in F (n - 1) hf1 hro _ _).mono ?_; rintro e w' ⟨rfl, rfl⟩)
 have bO := Boxed.new w 22 (.slice none 0 0)
 have bN := Boxed.new (w.alloc (.cells #[.slice none 0 0] 22)) 3 (.int .i64 N)
 rw [World.size_alloc] at bN
 have hB0 : Below w.heap.size w ((w.alloc (.cells #[.slice none 0 0] 22)).alloc (.cells #[.int .i64 N] 3)) := ((Below.refl _ w).alloc (Nat.le_refl _) _).alloc (by simp) _
 refine range_box hro h1 (gf := 98) (lb := #[.pointer (some ⟨w.heap.size + 1, 0, none⟩)]) rfl hf2 (enters_of Tryz.func98 (by kernel_rfl) rfl)
  (encs := fun x : Int × Bool => #[.int .i64 x.1, .bool x.2]) (bn := w.heap.size + 1) (t := 3) (xs := upto (dg N) 5)
  (fun l J Jx W hW hJ hY h0 => digits1_in F (n - 1) hf2 hro (by omega) l (w.heap.size + 1) N (by omega) J Jx hJ hY W ((hW.block _ (by simp)).trans bN) h0) (fun _ => rfl)
  (fun pre W => (Col w.heap.size w.heap.size (w.heap.size + 1) pre W ∧ Below w.heap.size w W) ∧ ∀ i, i < pre.length → (dg N i).2 = false)
  (fun c pre W => (Col w.heap.size w.heap.size (w.heap.size + 1) pre W ∧ Below w.heap.size w W) ∧ ∃ k, pre.length = k + 1 ∧ (dg N k).2 = true ∧ (∀ i, i < k → (dg N i).2 = false) ∧ c = .exit 0)
  (OwnFrom.and (OwnFrom.and ((Col.own _ _ _).from _) (ownFrom_below (Nat.le_refl _) (by simp; omega))) (fun _ _ _ _ h _ _ => h))
  (fun _ => OwnFrom.and (OwnFrom.and ((Col.own _ _ _).from _) (ownFrom_below (Nat.le_refl _) (by simp; omega))) (fun _ _ _ _ h _ _ => h))
  (fun s A v h => ⟨⟨h.1.1.box (by omega) v, h.1.2.setCell (p := ⟨w.heap.size + 1, 0, none⟩) (by simp) v⟩, h.2⟩)
  ⟨⟨⟨⟨_, bO.alloc _, World.ownsRow_nil _ _ _ _⟩, _, bN⟩, hB0⟩, fun _ h => absurd h (by simp)⟩
  (fun x => { tmps := #[.int .i64 N, undef, .slice none 0 0, .int .i64 0, .pointer (some ⟨w.heap.size, 0, none⟩), .int .i64 x.1, .bool x.2, .int .i64 N, .bool false, .bool false, .int .i64 N, .bool false, .bool false, .int .i64 N,
   .func (.func 98) #[] #[.pointer (some ⟨w.heap.size + 1, 0, none⟩)], .int .i64 x.1, .bool x.2, undef, undef, undef, undef, undef, undef, undef, undef, undef, undef, undef, undef, undef], defers := [] }) ?assign ?body ?done ?stop
 case assign =>
  intro l x W K hK
  gi_wp2
  exact hK
 case body =>
  rintro l pre x W ⟨⟨⟨⟨v, hv, hrow⟩, u, hu⟩, hB⟩, hlast⟩ hx
  obtain ⟨hlen, hpre, rfl⟩ := prefix_snoc_upto _ hx
  clear hpre hx
  have hrg := dg_range N pre.length
  have hc := hv.cell
  have hB' := hB.size
  cases hl : (dg N pre.length).2
  ·have hval := u8_more hrg.1 hrg.2 hl
   generalize hd : (dg N pre.length).1 = d at *
   gi_wp2_with (gi_at_builtin; go_must (refine wpListIn_append_own _ rfl _ _ 22 rfl w.heap.size 5 i0 (.int .u8 0) 1 1 Tryz.underlying22 hi hz0 hz1 hz2 rfl (by decide) _ _ _ rfl (hrow.alloc _) ⟨W.heap.size, 0, none⟩ 1 1 [.int .u8 (d + 128)] rfl rfl (cell_one_new _ _ _) (by simp [Value.oneCell']) (by unfold maxLen; omega) (by omega) (by simp; omega) ?_; intro v' w1 hown' hgrow _; obtain ⟨g', cap', rfl⟩ := ownsRow_succ hown'; obtain ⟨hv1, hv2, hr2, hk2, hb2⟩ := hv.appended (by decide) hrow hB.size (Nat.le_refl _) hown' hgrow; have hkb := keepsBox_appended (B := w.heap.size) (bn := w.heap.size + 1) (t := 3) (by decide) hrow hgrow (by omega) (.slice (some ⟨g', 0, none⟩) (pre.length + 1) cap'); have hc1 := hv1.cell; have hf1 := hv1.frozen))
   refine ⟨hk2, hkb, ⟨⟨⟨_, hv2, ?_⟩, _, hkb _ hu⟩, hB.trans hb2⟩, fun i hi' => ?_⟩
   ·simpa [hval] using hr2
   ·by_cases e : i = pre.length
    ·subst e; exact hl
    ·exact hlast i (by simp at hi'; omega)
  ·have hval := u8_last hrg.1 hrg.2 hl
   generalize hd : (dg N pre.length).1 = d at *
   gi_wp2_with (gi_at_builtin; go_must (refine wpListIn_append_own _ rfl _ _ 22 rfl w.heap.size 5 i0 (.int .u8 0) 1 1 Tryz.underlying22 hi hz0 hz1 hz2 rfl (by decide) _ _ _ rfl (hrow.alloc _) ⟨W.heap.size, 0, none⟩ 1 1 [.int .u8 d] rfl rfl (cell_one_new _ _ _) (by simp [Value.oneCell']) (by unfold maxLen; omega) (by omega) (by simp; omega) ?_; intro v' w1 hown' hgrow _; obtain ⟨g', cap', rfl⟩ := ownsRow_succ hown'; obtain ⟨hv1, hv2, hr2, hk2, hb2⟩ := hv.appended (by decide) hrow hB.size (Nat.le_refl _) hown' hgrow; have hkb := keepsBox_appended (B := w.heap.size) (bn := w.heap.size + 1) (t := 3) (by decide) hrow hgrow (by omega) (.slice (some ⟨g', 0, none⟩) (pre.length + 1) cap'); have hc1 := hv1.cell; have hf1 := hv1.frozen))
   refine ⟨hk2, ⟨⟨⟨_, hv2, ?_⟩, _, hkb _ hu⟩, hB.trans hb2⟩, pre.length, by simp, hl, hlast, rfl⟩
   simpa [hval] using hr2
 case done =>
  rintro D W hD h hK
  have h5 := h.2 4 (by rw [upto_length]; omega)
  have h4 := dv_small hN
  simp [dg] at h5
  omega
 case stop =>
  rintro D c pre W hD hpre ⟨⟨⟨⟨v, hv, hrow⟩, u, hu⟩, hB⟩, k, hk, hlk, hfk, rfl⟩ hK
  have hc := hv.cell
  have hbs : pre.map (fun x => u8 (byt x)) = (bytesOf N).map u8 := by
   rw [prefix_upto _ hpre, hk, ← bytesOf_upto k N hlk hfk, List.map_map]; rfl
  have hbl : pre.length = (bytesOf N).length := by simpa using congrArg List.length hbs
  rw [hbs, hbl] at hrow
  gi_wp2
  refine ⟨by simp, .inl ⟨_, _, rfl, run_takeDeferred hK, ?_⟩⟩
  exact ⟨_, results_tmp2 rfl _ _ _, v, rfl, ownsRow_putObj hrow _ hK rfl, hB.trans (belowK_b (w := w) (Nat.le_refl _) W D _ _ (by simp at hD; omega) hK rfl rfl)⟩

attribute [local go_sem] Oper.semAt_some

/-- What a byte is handed out as. -/
def sd (x : UInt8) : Array Value := #[.int .i64 ((x.toNat : Int) % 128), .bool (decide ((x.toNat : Int) < 128))]

theorem byte_lt (x : UInt8) : (x.toNat : Int) < 256 := by have := x.toNat_lt; omega

set_option maxRecDepth 100000 in
set_option maxHeartbeats 2000000 in
theorem standing1_some (F : Fence) (n : Nat) (hf : F.fn 132) (hro : F.round = none) (hn : 1 ≤ n) (l bn n₀ b off cap : Nat) (xs : List UInt8) (hcap : xs.length ≤ cap) (hm : cap ≤ maxLen) (hb : b < n₀) (J Jx : List UInt8 → World → Prop)
  (hY : ∀ pre x W, J pre W → pre.length < 5 → YieldAt F (n - 1) Tryz.prog l (sd x) W fun e W' =>
   (e = .returned (.bool true) ∧ J (pre ++ [x]) W' ∧ Below n₀ W W') ∨ (e = .returned (.bool false) ∧ Jx (pre ++ [x]) W'))
  (W : World) (hbn : W.cell? ⟨bn, 0, none⟩ = some (.slice (some ⟨b, off, none⟩) xs.length cap)) (hc : ∀ j (h : j < xs.length), W.cell? ⟨b, off + j, none⟩ = some (u8 xs[j])) (h0 : J [] W) :
  CallsIn F n Tryz.prog 132 #[.func (.yield l) #[] #[], .pointer (some ⟨bn, 0, none⟩)] W fun e W' => (∃ v, e = .returned v) ∧ ((∃ ys, ys = xs.take 5 ∧ J ys W') ∨ (∃ pre, pre <+: xs.take 5 ∧ Jx pre W')) := by
 unfold maxLen at hm
 have htake : ∀ k (h : k < xs.length), xs.take (k + 1) = xs.take k ++ [xs[k]] := fun k h => by rw [List.take_succ_eq_append_getElem h]
 have HT := Lib.hid htake
 have HC := Lib.hid hc
 clear htake hc
 by_cases hle : xs.length ≤ 5
 ·have hmi : (xs.length : Int) ≤ 5 := by omega
  refine callsIn_of_wp Tryz.func132 rfl hf ?_ hro
  simp only [Tryz.ntmps132, List.size_toArray, List.length_cons, List.length_nil, Nat.reduceAdd, Nat.reduceSub, Array.replicate_succ, Array.replicate_zero, List.push_toArray, List.append_toArray, List.nil_append, List.cons_append]
  gi_wp2
  gi_loopw [11] (fun i wr => ∃ k : Nat, k ≤ xs.length ∧ i = .int .i64 k ∧ J (xs.take k) wr ∧ Below n₀ W wr)
   (fun i _ => xs.length - (intOf i).toNat)
  case atStart => exact ⟨0, Nat.zero_le _, rfl, h0, Below.refl _ _⟩
  case round =>
   obtain ⟨k, hk, rfl, hJs, hbl⟩ := hrel
   by_cases hlt : k < xs.length
   ·have hkl : k < xs.length := by omega
    obtain ⟨fn, tmps, assign, body, hy, hR⟩ := hY _ xs[k] wr hJs (by rw [List.length_take]; omega)
    have hck := (hbl.cell (p := ⟨b, off + k, none⟩) hb).trans (HC.out k hkl)
    have hbyte := byte_lt xs[k]
    unfold u8 at hck
    dsimp only [sd] at hy
    generalize hu : (xs[k].toNat : Int) = u at hck hy hbyte
    have hu0 : 0 ≤ u := by omega
    clear hu
    gi_wp2
    refine hR.mono ?_
    rintro e W3 (⟨rfl, hJ3, hk3⟩ | ⟨rfl, hJx3⟩)
    ·gi_wp2
     go_roundw
     case rel => exact ⟨k + 1, by omega, by simp, by rw [HT.out k hkl]; exact hJ3, hbl.trans hk3⟩
     case measure => simp [intOf]; omega
    ·gi_wp2
     refine bodyPost_ret (results_none rfl _ _ _) rfl ?_
     exact ⟨⟨_, rfl⟩, .inr ⟨_, by rw [← HT.out k hkl]; exact List.take_prefix_take_left (by omega), hJx3⟩⟩
   ·obtain rfl : k = xs.length := by omega
    gi_wp2
    go_end0
    exact ⟨⟨_, rfl⟩, .inl ⟨_, by rw [List.take_of_length_le hle]; simp, hJs⟩⟩
 ·have hmi : 5 < (xs.length : Int) := by omega
  have hmi2 : 5 < xs.length := by omega
  clear hle
  refine callsIn_of_wp Tryz.func132 rfl hf ?_ hro
  simp only [Tryz.ntmps132, List.size_toArray, List.length_cons, List.length_nil, Nat.reduceAdd, Nat.reduceSub, Array.replicate_succ, Array.replicate_zero, List.push_toArray, List.append_toArray, List.nil_append, List.cons_append]
  gi_wp2
  gi_loopw [11] (fun i wr => ∃ k : Nat, k ≤ 5 ∧ i = .int .i64 k ∧ J (xs.take k) wr ∧ Below n₀ W wr)
   (fun i _ => 5 - (intOf i).toNat)
  case atStart => exact ⟨0, Nat.zero_le _, rfl, h0, Below.refl _ _⟩
  case round =>
   obtain ⟨k, hk, rfl, hJs, hbl⟩ := hrel
   by_cases hlt : k < 5
   ·have hkl : k < xs.length := by omega
    obtain ⟨fn, tmps, assign, body, hy, hR⟩ := hY _ xs[k] wr hJs (by rw [List.length_take]; omega)
    have hck := (hbl.cell (p := ⟨b, off + k, none⟩) hb).trans (HC.out k hkl)
    have hbyte := byte_lt xs[k]
    unfold u8 at hck
    dsimp only [sd] at hy
    generalize hu : (xs[k].toNat : Int) = u at hck hy hbyte
    have hu0 : 0 ≤ u := by omega
    clear hu
    gi_wp2
    refine hR.mono ?_
    rintro e W3 (⟨rfl, hJ3, hk3⟩ | ⟨rfl, hJx3⟩)
    ·gi_wp2
     go_roundw
     case rel => exact ⟨k + 1, by omega, by simp, by rw [HT.out k hkl]; exact hJ3, hbl.trans hk3⟩
     case measure => simp [intOf]; omega
    ·gi_wp2
     refine bodyPost_ret (results_none rfl _ _ _) rfl ?_
     exact ⟨⟨_, rfl⟩, .inr ⟨_, by rw [← HT.out k hkl]; exact List.take_prefix_take_left (by omega), hJx3⟩⟩
   ·obtain rfl : k = 5 := by omega
    gi_wp2
    go_end0
    exact ⟨⟨_, rfl⟩, .inl ⟨_, rfl, hJs⟩⟩

set_option maxRecDepth 100000 in
set_option maxHeartbeats 1000000 in
theorem standing1_none (F : Fence) (n : Nat) (hf : F.fn 132) (hro : F.round = none) (l bn cap : Nat) (A : Option Addr) (hm : cap ≤ maxLen) (J Jx : List UInt8 → World → Prop)
  (W : World) (hbn : W.cell? ⟨bn, 0, none⟩ = some (.slice A 0 cap)) (h0 : J [] W) :
  CallsIn F n Tryz.prog 132 #[.func (.yield l) #[] #[], .pointer (some ⟨bn, 0, none⟩)] W fun e W' => (∃ v, e = .returned v) ∧ ((∃ ys, ys = ([] : List UInt8) ∧ J ys W') ∨ (∃ pre, pre <+: ([] : List UInt8) ∧ Jx pre W')) := by
 unfold maxLen at hm
 refine callsIn_of_wp Tryz.func132 rfl hf ?_ hro
 simp only [Tryz.ntmps132, List.size_toArray, List.length_cons, List.length_nil, Nat.reduceAdd, Nat.reduceSub, Array.replicate_succ, Array.replicate_zero, List.push_toArray, List.append_toArray, List.nil_append, List.cons_append]
 gi_wp2
 gi_loopw [11] (fun i wr => i = .int .i64 0 ∧ J [] wr) (fun _ _ => 0)
 case atStart => exact ⟨rfl, h0⟩
 case round =>
  obtain ⟨rfl, hJs⟩ := hrel
  gi_wp2
  go_end0
  exact ⟨⟨_, rfl⟩, .inl ⟨_, rfl, hJs⟩⟩

/-- The function value that standing hands back: it keeps the slice in a box. -/
theorem standing_in (F : Fence) (n : Nat) (hf : F.fn 123) (hro : F.round = none) (v : Value) (w : World) (hv : ∃ A len cap, v = .slice A len cap) :
  CallsIn F n Tryz.prog 123 #[v] w fun e w' => e = .returned (.func (.func 132) #[] #[.pointer (some ⟨w.heap.size, 0, none⟩)]) ∧ w' = w.alloc (.cells #[v] 22) := by
 obtain ⟨A, len, cap, rfl⟩ := hv
 refine callsIn_of_wp Tryz.func123 rfl hf ?_ hro
 simp only [Tryz.ntmps123, List.size_toArray, List.length_cons, List.length_nil, Nat.reduceAdd, Nat.reduceSub, Array.replicate_succ, Array.replicate_zero, List.push_toArray, List.append_toArray, List.nil_append, List.cons_append]
 gi_wp2
 go_ret
 exact ⟨rfl, rfl⟩

theorem standing_stops (F : Fence) (n : Nat) (hf : F.fn 132) (hro : F.round = none) (hn : 1 ≤ n) (bn n₀ : Nat) (v : Value) (xs : List UInt8) (w : World) (hbn : bn < w.heap.size) (hn₀ : n₀ ≤ w.heap.size)
  (hc : w.cell? ⟨bn, 0, none⟩ = some v) (hx : Txt w n₀ v xs) :
  SeqStopsK F n Tryz.prog 132 #[.pointer (some ⟨bn, 0, none⟩)] sd (Below n₀) (fun ys => ys = xs.take 5) (fun pre => pre <+: xs.take 5) 5 w := by
 intro l J Jx W hW _ _ hY h0
 have hcW := (hW.cell (p := ⟨bn, 0, none⟩) hbn).trans hc
 obtain ⟨A, cap, rfl, hl, hm, _, hs⟩ := hx.below (hW.mono hn₀)
 by_cases h : 0 < xs.length
 ·obtain ⟨b, off, rfl, hb, hcs⟩ := hs h
  exact standing1_some F n hf hro hn l bn n₀ b off cap xs hl hm hb J Jx hY W hcW hcs h0
 ·obtain rfl : xs = [] := List.eq_nil_of_length_eq_zero (by omega)
  exact standing1_none F n hf hro l bn cap A hm J Jx W hcW h0
end Go.Proofs.YteloiajocjahmaaGreatDoor
