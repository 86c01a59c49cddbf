/-
  Arrays that are the same; the hash of a literal; noughts that are made; a whole array read first.
  Conditions: the table of constants reads as it was laid.
-/
import Derived.Test.YtdaaemnfphagbaaDoorShaSum
import Derived.ChangeKeysEq
import Derived.Lib.SlBytesConst
import Derived.BigRegion
import Derived.Deep.RegionHeld3
set_option linter.unusedVariables false
set_option linter.unusedSimpArgs false
namespace Go.Proofs.YtdaaemnfphagbaaDoor
open Go.RowKit

theorem eqItems_refl {P : Program} {w : World} {e d : TypeId} {k : IntKind} {xs : Array Value} (he : P.underlying e = some (.int k)) (is : List Nat) (h : ∀ i ∈ is, ∃ z, xs[i]? = some (.int k z)) :
    (Op.eqItems (d + 1) e 1 xs xs is).run P w = .ok true w := by
  induction is with
  | nil => simp [Op.eqItems]
  | cons i is ih =>
    obtain ⟨z, hz⟩ := h i (by simp)
    have hagg : (isAgg e).run P w = .ok false w := by
      unfold isAgg
      rw [Sem.run_bind, run_underlying he w]
      simp
    have hp : (part e xs (i * 1)).run P w = .ok (.int k z) w := by
      simp [part, Sem.run_bind, hagg, hz]
    simp only [Op.eqItems, Sem.run_bind, hp, Result.andThen_ok, run_equalIn_int w d e k k z z he]
    simpa using ih (fun j hj => h j (List.mem_cons_of_mem _ hj))
theorem run_equal_refl {P : Program} {w : World} {t e : TypeId} {n : Nat} {k : IntKind} {i : TypeInfo} {xs : Array Value} (ht : P.underlying t = some (.array n e)) (he : P.underlying e = some (.int k)) (hi : P.info? e = some i) (hc : P.cellsOf e = 1) (h : ∀ j, j < n → ∃ z, xs[j]? = some (.int k z)) :
    (Op.equalIn 10000 t (.agg xs) (.agg xs)).run P w = .ok true w := by
  rw [run_equalIn_array w 9999 xs xs ht hi, hc]
  exact eqItems_refl (d := 9998) he _ (fun j hj => h j (by simpa using hj))

theorem same32 (l : List UInt8) (h : l.length = 32) (w : World) : (Op.equalIn 10000 22 (.agg (rowB l)) (.agg (rowB l))).run Tryd.prog w = .ok true w := by
  obtain ⟨ie, h1, -, -, -⟩ := info_parts infoByte
  exact run_equal_refl Tryd.underlying22 Tryd.underlying5 h1 (by kernel_rfl) (fun j hj => ⟨_, rowB_at (by omega)⟩)
theorem same8 (l : List Nat) (h : l.length = 8) (w : World) : (Op.equalIn 10000 43 (.agg (row32 l)) (.agg (row32 l))).run Tryd.prog w = .ok true w := by
  obtain ⟨ie, h1, -, -, -⟩ := info_parts infoWord
  exact run_equal_refl Tryd.underlying43 Tryd.underlying42 h1 (by kernel_rfl) (fun j hj => ⟨_, row32_at (List.getElem?_eq_getElem (by omega))⟩)

theorem sum_lit (xs : List UInt8) (hl : xs.length ≤ 100) (fr : Nat × Nat) (w : World) (hT : Tab w) :
    Calls Tryd.prog 12 #[.slice (some ⟨w.heap.size, 0, none⟩) xs.length xs.length] (w.alloc (.cells (xs.map u8).toArray 5 fr)) fun e W' => e = .returned (.agg (rowB (sumL xs))) ∧ Below w.heap.size w W' :=
  (sum_any _ xs (by omega) _ (hT.below (below_new w _) hT.pos) (txt_mark w _ xs fr (by unfold maxLen; omega))).mono fun e W' ⟨he, hb⟩ => ⟨he, (below_new w _).trans (hb.mono (by simp))⟩

theorem make_noughts (m : Nat) (h : m ≤ 10000) (w' : World) : (Instr.makeSlice 26 (.int .i64 (m : Int)) (.int .i64 (m : Int))).run Tryd.prog w' = .ok (.slice (some ⟨w'.heap.size, 0, none⟩) m m) (w'.alloc (.cells (rowB (List.replicate m 0)) 5)) := by
  obtain ⟨i0, hi, hz0, hz1, hz2⟩ := info_parts infoByte
  have := run_make (P := Tryd.prog) w' 26 5 i0 _ Tryd.underlying26 hi hz0 .i64 .i64 m m (by omega) (by omega) (by rw [hz2]; omega) (by omega)
  rw [this]
  rw [hz1]
  show Result.ok _ (w'.alloc (.cells (madeCells _ ((m : Int).toNat * 1)) _)) = _
  rw [Int.toNat_natCast, made_noughts]

/-- A whole array may be loaded first where S gives it. -/
theorem yieldsIf_load_row {P : Program} {ops : Array Oper} {S : World → Prop} {op : Oper} {a : Act} (hw : Region.wanted op (yielded ops a.tmps) = true) (ty : TypeId) (x : Operand) (ho : op.op = .load ty x) (b : Nat) (hx : a.eval x = .pointer (some ⟨b, 0, none⟩)) (c : Array Value)
    (hrun : ∀ w, S w → (Instr.loadAt ty (.pointer (some ⟨b, 0, none⟩))).run P w = .ok (.agg c) w) : YieldsIf P ops S op (.agg c) a := by
  refine .inl ⟨hw, fun w hS => ?_⟩
  unfold execOp
  simp only [ho, hx, hrun w hS, Sem.run_bind, Result.andThen_ok, Sem.run_pure]

end Go.Proofs.YtdaaemnfphagbaaDoor
