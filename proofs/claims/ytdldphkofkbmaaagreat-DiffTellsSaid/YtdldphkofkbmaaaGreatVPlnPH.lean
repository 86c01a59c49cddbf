/-
 The program's package plan: copies.
 Conditions: none.
-/
import Derived.Test.YtdldphkofkbmaaaGreatVPlnPB
import Derived.Test.YtdldphkofkbmaaaGreatVPlnPC
import Derived.Test.YtdldphkofkbmaaaGreatVPlnPD
import Derived.Test.YtdldphkofkbmaaaGreatVGTrkPH
import Derived.Test.YtdldphkofkbmaaaGreatVGPlnRefD
set_option linter.unusedVariables false
set_option linter.unusedSimpArgs false
set_option maxRecDepth 100000
namespace Go.Proofs.YtdldphkofkbmaaaGreat
open Go.RowKit

theorem wpList_append_listB {P : Program} {w : World} {ops : Array Oper} {rest : List Oper} {o : Oper} {a : Act} {Q : Exit → Act → World → Prop} (hgd : o.guard = none) (s x : Operand) (t : TypeId)
  (ho : o.op = .call { callee := .builtin .append, args := #[s, x], argTypes := #[t, t] })
  {base e size bytes : Nat} {i : TypeInfo} {z : Value} (ht : P.underlying t = some (.slice e)) (hi : P.info? e = some i) (hz : i.zero = some z) (hzs : z.cells.size = size) (hsize : i.size = size) (hsz : 0 < size) (hby : i.bytes = bytes) (hb8 : bytes ≤ 1000)
  {v : Value} {n m c : Nat} {A : Option Addr} {ys news : List Value} (hs : a.eval s = v) (hown : w.ownsRow base e size v n ys) (hu : a.eval x = .slice A m c) (hl : news.length = m * size) (hA : A = none → m = 0 ∧ c = 0)
  (hc : ∀ a, A = some a → ∀ j u, news[j]? = some u → w.cell? (a.add j) = some u) (h1 : ∀ u ∈ news, u.oneCell' = true) (h63 : n + m ≤ 100000) (hbase : base ≤ w.heap.size)
  (h : ∀ v' w', w'.ownsRow base e size v' (n + m) (ys ++ news) → w.grownBy w' v.ownBlock → wpList P ops Q rest (a.put o.dst v') w') : wpList P ops Q (o :: rest) a w :=
 wpList_plain hgd fun _ hK => wp_append_listB s x t ho ht hi hz hzs hsize hsz hby hb8 hs hown hu hl hA hc h1 h63 hbase fun v' w' h2 h3 => hK _ _ (h v' w' h2 h3)

theorem made_sec (m : Nat) (h : m ≤ 1000) (w' : World) : ∃ o : Obj, (Instr.makeSlice 22 (.int .i64 0) (.int .i64 (m : Int))).run Tryz.prog w' = .ok (.slice (some ⟨w'.heap.size, 0, none⟩) 0 m) (w'.alloc o) ∧ (w'.alloc o).ownsRow w'.heap.size 51 3 (.slice (some ⟨w'.heap.size, 0, none⟩) 0 m) 0 [] := by
 obtain ⟨i0, hi, hz0, hz1, hz2⟩ := info_parts infoSec
 have := run_make (P := Tryz.prog) w' 22 51 i0 _ Tryz.underlying22 hi hz0 .i64 .i64 0 m (by omega) (by omega) (by rw [hz2]; omega) (by omega)
 exact ⟨_, this, World.ownsRow_made _ _ _ (Nat.le_refl _) (by unfold maxLen; omega) (by rw [hz1]; simp [madeCells])⟩
theorem made_rt (m : Nat) (h : m ≤ 1000) (w' : World) : ∃ o : Obj, (Instr.makeSlice 25 (.int .i64 0) (.int .i64 (m : Int))).run Tryz.prog w' = .ok (.slice (some ⟨w'.heap.size, 0, none⟩) 0 m) (w'.alloc o) ∧ (w'.alloc o).ownsRow w'.heap.size 47 7 (.slice (some ⟨w'.heap.size, 0, none⟩) 0 m) 0 [] := by
 obtain ⟨i0, hi, hz0, hz1, hz2⟩ := info_parts infoRouteI
 have := run_make (P := Tryz.prog) w' 25 47 i0 _ Tryz.underlying25 hi hz0 .i64 .i64 0 m (by omega) (by omega) (by rw [hz2]; omega) (by omega)
 exact ⟨_, this, World.ownsRow_made _ _ _ (Nat.le_refl _) (by unfold maxLen; omega) (by rw [hz1]; simp [madeCells])⟩
end Go.Proofs.YtdldphkofkbmaaaGreat
