/-
  A law for 'for x := range seq' where seq keeps one variable of its own in a box: what the caller owes is an invariant that a store into that box does not disturb, and one walk of the loop's body.
  Conditions: the loop stands in no other loop's round; the iterator's contract is given at each loop record.
-/
import Derived.RangeFuncBox
import Derived.RangeFuncLeaves
import Derived.Shelf.Abstract
set_option linter.unusedVariables false
set_option linter.unusedSimpArgs false
namespace Go.Proofs.Ythlohfiidogiiaa
open Go.RowKit

/-- What a round keeps for the iterator: its own box. -/
def KeepsBox (bn : Nat) (t : TypeId) (W W' : World) : Prop := ∀ v, Boxed W bn t v → Boxed W' bn t v

theorem KeepsBox.put {bn : Nat} {t : TypeId} {A W : World} (h : KeepsBox bn t A W) {l : Nat} {o : Obj} (o' : Obj) (hl : W.heap[l]? = some o) (ho : o.isCells = false) : KeepsBox bn t A (W.putObj l o') := fun v hv =>
  (h v hv).kept (grownBy_putObj' W l o') (fun e => by
    have := h v hv
    cases e
    rw [show W.heap[bn]? = _ from this] at hl; cases hl; cases ho)

theorem KeepsBox.of_put {bn : Nat} {t : TypeId} {A W : World} {l : Nat} {o o' : Obj} (hl : A.heap[l]? = some o) (ho : o.isCells = false) (h : KeepsBox bn t (A.putObj l o') W) : KeepsBox bn t A W := fun v hv =>
  h v ((show KeepsBox bn t A A from fun _ k => k).put o' hl ho v hv)

/-- How a round's body may be left. -/
def RoundEnd {α : Type} (bn : Nat) (t : TypeId) (I : List α → World → Prop) (Ix : Code → List α → World → Prop) (ys : List α) (W : World) : Exit → Act → World → Prop
  | .normal, _, W' => KeepsOthers W W' ∧ KeepsBox bn t W W' ∧ I ys W'
  | .ret, _, W' => KeepsOthers W W' ∧ Ix .ret ys W'
  | .exit id, _, W' => KeepsOthers W W' ∧ Ix (.exit id) ys W'
  | .goto g, _, W' => KeepsOthers W W' ∧ Ix (.goto g) ys W'
  | .panic _, _, _ => False
  | .outgrown, _, _ => False

/-- What the iterator promises, at every loop. -/
def Hands {α : Type} (F : Fence) (n : Nat) (P : Program) (gf : Nat) (lb : Array Value) (encs : α → Array Value) (bn : Nat) (t : TypeId) (xs : List α) (w : World) : Prop :=
  ∀ (l : Nat) (J Jx : List α → World → Prop) (W : World), Below w.heap.size w W → (∀ s A v, J s A → J s (A.setCell ⟨bn, 0, none⟩ v)) →
    (∀ pre x W1, J pre W1 → pre ++ [x] <+: xs → YieldAt F (n - 1) P l (encs x) W1 fun e W' =>
      (e = .returned (.bool true) ∧ J (pre ++ [x]) W' ∧ KeepsBox bn t W1 W') ∨ (e = .returned (.bool false) ∧ Jx (pre ++ [x]) W')) →
    J [] W →
    CallsIn F n P gf (#[.func (.yield l) #[] #[]] ++ lb) W fun e W' => (∃ v, e = .returned v) ∧ (J xs W' ∨ ∃ pre, pre <+: xs ∧ Jx pre W')

variable {F : Fence} {n : Nat} {P : Program}

theorem range_box {α : Type} {g : Operand} {ps : Array Tmp} {assign body : Code} {Q : Exit → Act → World → Prop} {a : Act} {w : World}
    (hro : F.round = none) (h1 : 1 ≤ n) {gf : Nat} {lb : Array Value} (hg : a.eval g = .func (.func gf) #[] lb) (hFg : F.fn gf) (eg : ∀ args w, (callFunc gf args).run P w = .ok (.enter gf args) w)
    {encs : α → Array Value} {bn : Nat} {t : TypeId} {xs : List α} (hseq : Hands F (n - 1) P gf lb encs bn t xs w) (hps : ∀ x, (encs x).size = ps.size)
    (I : List α → World → Prop) (Ix : Code → List α → World → Prop) (hI : OwnFrom w.heap.size I) (hIx : ∀ c, OwnFrom w.heap.size (Ix c)) (hIb : ∀ s A v, I s A → I s (A.setCell ⟨bn, 0, none⟩ v)) (h0 : I [] w) (a₁ : α → Act)
    (hassign : ∀ (l : Nat) (x : α) (W : World) (K : Act → World → Prop), K (a₁ x) W →
      assign.wpIn (F.inRound l) (n - 1 - 1) P (Exit.then K (fun _ _ _ => False)) { tmps := (ps.zip (encs x)).foldl (fun t (p, v) => t.setIfInBounds p v) a.tmps, defers := [] } W)
    (hbody : ∀ (l : Nat) (pre : List α) (x : α) (W : World), I pre W → pre ++ [x] <+: xs → body.wpIn (F.inRound l) (n - 1 - 1) P (RoundEnd bn t I Ix (pre ++ [x]) W) (a₁ x) W)
    (hdone : ∀ (D : Nat) (W : World), w.heap.size ≤ D → I xs W → W.heap[D]? = some (.deferred (some [])) → Q .normal { a with defers := { target := .collected D, args := #[] } :: a.defers } W)
    (hstop : ∀ (D : Nat) (c : Code) (pre : List α) (W : World), w.heap.size ≤ D → pre <+: xs → Ix c pre W → W.heap[D]? = some (.deferred (some [])) → c.wpIn F n P Q { a with defers := { target := .collected D, args := #[] } :: a.defers } W) :
    (Code.rangeFunc g ps assign body).wpIn F n P Q a w := by
  refine wpIn_rangeFunc fun fn hfn => ?_
  rw [hro]
  let D := w.heap.size
  let rc : LoopState → Option Code → Loop := fun st pe => { state := st, pending := pe, fn, tmps := a.tmps, params := ps, assign, body, defers := D }
  let W1 : World := (w.alloc (.deferred (some []))).alloc (.loop (rc .ready none))
  have hD1 : W1.heap[D]? = some (.deferred (some [])) := (Below.heap_alloc _ _ _ (by simp [D])).trans (World.alloc_heap_new w _)
  have hL1 : W1.heap[D + 1]? = some (.loop (rc .ready none)) := by
    have := World.alloc_heap_new (w.alloc (.deferred (some []))) (.loop (rc .ready none))
    rwa [World.size_alloc] at this
  have hB1 : Below w.heap.size w W1 := ((Below.refl _ w).alloc (Nat.le_refl _) _).alloc (by simp) _
  -- the two blocks of the loop's own, through a step that leaves alone what is no cells
  let Bk : LoopState → Option Code → World → Prop := fun st pe W => W.heap[D + 1]? = some (.loop (rc st pe)) ∧ W.heap[D]? = some (.deferred (some []))
  have bkKeep : ∀ {st : LoopState} {pe : Option Code} {A B : World}, Bk st pe A → KeepsOthers A B → Bk st pe B := fun hA hk => ⟨hk.same _ _ hA.1 rfl, hk.same _ _ hA.2 rfl⟩
  have bkTurn : ∀ {st st' : LoopState} {pe pe' : Option Code} {A : World}, Bk st pe A → Bk st' pe' (A.putObj (D + 1) (.loop (rc st' pe'))) := fun hA =>
    ⟨World.putObj_heap_same (Array.getElem?_eq_some_iff.1 hA.1).1, (World.putObj_heap_other (by omega)).trans hA.2⟩
  have turnI : ∀ {s : List α} {K : List α → World → Prop} {st st' : LoopState} {pe pe' : Option Code} {A : World}, OwnFrom w.heap.size K → K s A → Bk st pe A → K s (A.putObj (D + 1) (.loop (rc st' pe'))) := fun hK hs hA =>
    hK.putObj _ hs (Nat.le_succ _) hA.1 rfl
  refine ⟨D + 1, [{ target := .collected D, args := #[] }], W1, { target := .fn (.func gf) lb, args := #[.func (.yield (D + 1)) #[] #[]] }, W1, gf, #[.func (.yield (D + 1)) #[] #[]] ++ lb, W1,
    run_enterLoop_outer _ _ _ _ _, by simp only [resolve, hg]; simp [go_sem], fun f' hf' => by simp [Target.leads] at hf'; subst hf'; exact hFg, by simp [invoke, go_sem, eg], fun _ => h1, ?_⟩
  refine (hseq (D + 1) (fun pre W => I pre W ∧ Bk .ready none W) (fun pre W => ∃ c, Ix c pre W ∧ Bk .done (some c) W) W1 hB1
    (fun s A v hs => ⟨hIb s A v hs.1, bkKeep hs.2 (KeepsOthers.setCell A _ v)⟩) ?_ ⟨hI.alloc _ (hI.alloc _ h0), hL1, hD1⟩).mono ?_
  · rintro pre x W ⟨hi, hb⟩ hx
    have hy := run_yield (P := P) (args := encs x) hb.1 (hps x)
    refine ⟨fn, _, assign, body, hy, roundIn_of_wpIn hfn (hassign _ x W _ ⟨_, run_beginRound hb.1 rfl, ?_⟩)⟩
    have hb2 : Bk .busy none (W.putObj (D + 1) (.loop (rc .busy none))) := bkTurn hb
    refine wpIn_mono (hbody _ pre x _ (turnI (st' := .busy) (pe' := none) hI hi hb) hx) ?_
    have fin : ∀ (jump : Option Code) (W3 : World), KeepsOthers (W.putObj (D + 1) (.loop (rc .busy none))) W3 → Bk .busy none W3 ∧
        (Instr.endRound (D + 1) jump).run P W3 = .ok (.bool jump.isNone) (W3.putObj (D + 1) (.loop (rc (if jump.isNone then .ready else .done) jump))) := fun jump W3 hk => by
      have h3 := bkKeep hb2 hk
      exact ⟨h3, run_endRound (P := P) jump h3.1⟩
    rintro e a3 W3 hp
    cases e with
    | normal =>
      obtain ⟨hk, hbx, hi3⟩ := hp
      obtain ⟨h3, hr⟩ := fin none W3 hk
      exact ⟨_, _, hr, .inl ⟨rfl, ⟨turnI (st' := .ready) (pe' := none) hI hi3 h3, bkTurn h3⟩, (KeepsBox.of_put hb.1 rfl hbx).put _ h3.1 rfl⟩⟩
    | ret =>
      obtain ⟨hk, hi3⟩ := hp
      obtain ⟨h3, hr⟩ := fin (some .ret) W3 hk
      exact ⟨_, _, hr, .inr ⟨rfl, .ret, turnI (st' := .done) (pe' := some .ret) (hIx _) hi3 h3, bkTurn h3⟩⟩
    | exit id =>
      obtain ⟨hk, hi3⟩ := hp
      obtain ⟨h3, hr⟩ := fin (some (.exit id)) W3 hk
      exact ⟨_, _, hr, .inr ⟨rfl, .exit id, turnI (st' := .done) (pe' := some (.exit id)) (hIx _) hi3 h3, bkTurn h3⟩⟩
    | goto gt =>
      obtain ⟨hk, hi3⟩ := hp
      obtain ⟨h3, hr⟩ := fin (some (.goto gt)) W3 hk
      exact ⟨_, _, hr, .inr ⟨rfl, .goto gt, turnI (st' := .done) (pe' := some (.goto gt)) (hIx _) hi3 h3, bkTurn h3⟩⟩
    | panic ch => exact hp.elim
    | outgrown => exact hp.elim
  · rintro e W2 ⟨⟨v, rfl⟩, (⟨hi, hb⟩ | ⟨pre, hpre, c, hi, hb⟩)⟩
    · exact ⟨none, _, run_endLoop (P := P) hb.1 (by simp [rc]), hdone D _ (Nat.le_refl _) (turnI (st' := .exhausted) (pe' := none) hI hi hb) ((World.putObj_heap_other (by omega)).trans hb.2)⟩
    · exact ⟨some c, _, run_endLoop (P := P) hb.1 (by simp [rc]), hstop D c pre _ (Nat.le_refl _) hpre (turnI (st' := .exhausted) (pe' := some c) (hIx c) hi hb) ((World.putObj_heap_other (by omega)).trans hb.2)⟩
end Go.Proofs.Ythlohfiidogiiaa
