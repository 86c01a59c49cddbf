/-
  A word of the window that goes round.
  Conditions: none.
-/
import Derived.Test.YtdaaemnfphagbaaDoorShaStep
set_option linter.unusedVariables false
set_option linter.unusedSimpArgs false
namespace Go.Proofs.YtdaaemnfphagbaaDoor
open Go.RowKit

theorem row32_at {l : List Nat} {j n : Nat} (h : l[j]? = some n) : (row32 l)[j]? = some (.int .u32 (n : Int)) := by
  simp only [row32, List.getElem?_toArray, List.getElem?_map, h, Option.map_some]; rfl
theorem row32_cell {w : World} {b : Nat} {l : List Nat} {t : TypeId} (h : w.heap[b]? = some (.cells (row32 l) t (0, 0))) {j n : Nat} (hj : l[j]? = some n) : w.cell? ⟨b, j, none⟩ = some (.int .u32 (n : Int)) := by
  rw [cell_of_row _ _ _ _ _ _ h]; exact row32_at hj

theorem ret_int {k : IntKind} {a b : Int} (h : a = b) : Ending.returned (.int k a) = .returned (.int k b) := by rw [h]

set_option maxHeartbeats 1000000 in
theorem next_cells (b t j1 j2 j3 j4 x y p q : Nat) (t1 : 16 ≤ t) (t2 : t < 64) (h1 : (t - 15) % 16 = j1) (h2 : (t - 2) % 16 = j2) (h3 : t % 16 = j3) (h4 : (t - 7) % 16 = j4)
    (hx : x < 4294967296) (hy : y < 4294967296) (hp : p < 4294967296) (hq : q < 4294967296) (w : World)
    (c1 : w.cell? ⟨b, j1, none⟩ = some (.int .u32 (x : Int))) (c2 : w.cell? ⟨b, j2, none⟩ = some (.int .u32 (y : Int))) (c3 : w.cell? ⟨b, j3, none⟩ = some (.int .u32 (p : Int))) (c4 : w.cell? ⟨b, j4, none⟩ = some (.int .u32 (q : Int))) :
    Calls Tryd.prog 24 #[.pointer (some ⟨b, 0, none⟩), .int .i64 t] w fun e w' => e = .returned (.int .u32 ((p + mix 7 18 3 x + q + mix 17 19 10 y) % 4294967296 : Nat)) ∧ Below w.heap.size w w' := by
  have e1 : ((t : Int) - 15) % 16 = j1 := by omega
  have e2 : ((t : Int) - 2) % 16 = j2 := by omega
  have e3 : (t : Int) % 16 = j3 := by omega
  have e4 : ((t : Int) - 7) % 16 = j4 := by omega
  have b1 : (j1 : Int) < 16 := by omega
  have b2 : (j2 : Int) < 16 := by omega
  have b3 : (j3 : Int) < 16 := by omega
  have b4 : (j4 : Int) < 16 := by omega
  have t1' : (16 : Int) ≤ t := by omega
  have t2' : (t : Int) < 64 := by omega
  have w1 : IntKind.i64.wrap ((t : Int) - 15) = t - 15 := IntWalk.i64_in _ (by omega)
  have w2 : IntKind.i64.wrap ((t : Int) - 2) = t - 2 := IntWalk.i64_in _ (by omega)
  have w4 : IntKind.i64.wrap ((t : Int) - 7) = t - 7 := IntWalk.i64_in _ (by omega)
  have m1 : ((t : Int) - 15).tmod 16 = j1 := by rw [Int.tmod_eq_emod_of_nonneg (by omega)]; exact e1
  have m2 : ((t : Int) - 2).tmod 16 = j2 := by rw [Int.tmod_eq_emod_of_nonneg (by omega)]; exact e2
  have m3 : (t : Int).tmod 16 = j3 := by rw [Int.tmod_eq_emod_of_nonneg (by omega)]; exact e3
  have m4 : ((t : Int) - 7).tmod 16 = j4 := by rw [Int.tmod_eq_emod_of_nonneg (by omega)]; exact e4
  clear h1 h2 h3 h4
  go_enter Tryd.func24, Tryd.ntmps24
  go_wp2
  go_quiet (fail)
  have hb : Below w.heap.size w (w.drewN nq) := below_drewN (Below.refl _ _) nq
  have c3' : (w.drewN nq).cell? ⟨b, j3, none⟩ = some (.int .u32 (p : Int)) := c3
  have c4' : (w.drewN nq).cell? ⟨b, j4, none⟩ = some (.int .u32 (q : Int)) := c4
  generalize w.drewN nq = v at hb c3' c4' ⊢
  have HB := Lib.hid hb
  clear hb c1 c2 c3 c4
  go_wp2_with fail
  refine (rot_any x 7 _ hx (by unfold Turn; omega) rfl _).mono ?_
  rintro z w1 ⟨rfl, rfl⟩
  go_wp2_with fail
  refine (rot_any x 18 _ hx (by unfold Turn; omega) rfl _).mono ?_
  rintro z w1 ⟨rfl, rfl⟩
  go_wp2_with fail
  refine (rot_any y 17 _ hy (by unfold Turn; omega) rfl _).mono ?_
  rintro z w1 ⟨rfl, rfl⟩
  go_wp2_with fail
  refine (rot_any y 19 _ hy (by unfold Turn; omega) rfl _).mono ?_
  rintro z w1 ⟨rfl, rfl⟩
  go_wp2
  go_quiet (fail)
  go_wp2
  go_ret
  have lx7 := rotr_lt (n := 7) (by omega) hx
  have lx18 := rotr_lt (n := 18) (by omega) hx
  have ly17 := rotr_lt (n := 17) (by omega) hy
  have ly19 := rotr_lt (n := 19) (by omega) hy
  have mx : bits .xor .u32 (bits .xor .u32 (rotr 7 x : Nat) (rotr 18 x : Nat)) ((x : Int) / 8) = (mix 7 18 3 x : Nat) := by
    rw [u32_xor_nat _ _ lx7 lx18, show (x : Int) / 8 = ((x / 2 ^ 3 : Nat) : Int) by omega, u32_xor_nat _ _ (xor_w lx7 lx18) (Nat.lt_of_le_of_lt (Nat.div_le_self _ _) hx)]
    rfl
  have my : bits .xor .u32 (bits .xor .u32 (rotr 17 y : Nat) (rotr 19 y : Nat)) ((y : Int) / 1024) = (mix 17 19 10 y : Nat) := by
    rw [u32_xor_nat _ _ ly17 ly19, show (y : Int) / 1024 = ((y / 2 ^ 10 : Nat) : Int) by omega, u32_xor_nat _ _ (xor_w ly17 ly19) (Nat.lt_of_le_of_lt (Nat.div_le_self _ _) hy)]
    rfl
  rw [mx, my]
  exact ⟨ret_int (by omega), below_drewN HB.out _⟩

/-- The next word of the window. -/
theorem next_any (ws : List Nat) (hws : W32 16 ws) (n b : Nat) (hn : n < 48) (T : Int) (hT : T = ((16 + n : Nat) : Int)) (ty : TypeId) (w : World) (hh : w.heap[b]? = some (.cells (row32 (winL ws n)) ty (0, 0))) :
    Calls Tryd.prog 24 #[.pointer (some ⟨b, 0, none⟩), .int .i64 T] w fun e w' => e = .returned (.int .u32 (wordAt (sched ws n) (16 + n) : Nat)) ∧ Below w.heap.size w w' := by
  subst hT
  have ok := sched_ok hws n
  have h := next_cells b (16 + n) _ _ _ _ _ _ _ _ (by omega) (by omega) rfl rfl rfl rfl (ok.getD (16 + n - 15)) (ok.getD (16 + n - 2)) (ok.getD (16 + n - 16)) (ok.getD (16 + n - 7)) w
    (row32_cell hh (winL_at ws (by omega) (by omega))) (row32_cell hh (winL_at ws (by omega) (by omega)))
    (row32_cell hh (by rw [show (16 + n) % 16 = (16 + n - 16) % 16 by omega]; exact winL_at ws (by omega) (by omega))) (row32_cell hh (winL_at ws (by omega) (by omega)))
  exact h
end Go.Proofs.YtdaaemnfphagbaaDoor
