/-
  A step of eight words.
  Conditions: none.
-/
import Derived.Test.YtdaaemnfphagbaaDoorShaRot
import Derived.Test.YtdaaemnfphagbaaDoorRow
import Derived.Deep.LoopGhost
import Derived.Deep.DeepMust
import Derived.Deep.WholeRow
import Derived.Laws.ResultCell
import Derived.Laws.NewBlocks
set_option linter.unusedVariables false
set_option linter.unusedSimpArgs false
namespace Go.Proofs.YtdaaemnfphagbaaDoor
open Go.RowKit

def row32 (l : List Nat) : Array Value := (l.map w32).toArray
theorem row32_size (l : List Nat) : (row32 l).size = l.length := by simp [row32]
theorem row32_one (l : List Nat) : (row32 l).all (·.oneCell') = true := by
  rw [Array.all_eq_true_iff_forall_mem]
  intro v hv
  simp only [row32, List.mem_toArray, List.mem_map] at hv
  obtain ⟨x, _, rfl⟩ := hv
  rfl
theorem zero8 : (∀ w, (zeroValue 43).run Tryd.prog w = .ok (.agg (Array.replicate 8 (.int .u32 0))) w) ∧ (Tryd.prog.info? 43).map (·.size) = some 8 := zero_of_info (by kernel_rfl)

theorem set8 (z a b c d e f g h : Value) : ((((((((Array.replicate 8 z).setIfInBounds 0 a).setIfInBounds 1 b).setIfInBounds 2 c).setIfInBounds 3 d).setIfInBounds 4 e).setIfInBounds 5 f).setIfInBounds 6 g).setIfInBounds 7 h = #[a, b, c, d, e, f, g, h] := by
  apply Array.ext'
  simp [List.replicate]

set_option maxHeartbeats 1000000 in
theorem step_eight (a b c d e f g h m : Nat) (ha : a < 4294967296) (hb : b < 4294967296) (hc : c < 4294967296) (hd : d < 4294967296) (he : e < 4294967296) (hf : f < 4294967296) (hg : g < 4294967296) (hh : h < 4294967296) (hm : m < 4294967296) (w : World) :
    Calls Tryd.prog 25 #[.agg #[.int .u32 a, .int .u32 b, .int .u32 c, .int .u32 d, .int .u32 e, .int .u32 f, .int .u32 g, .int .u32 h], .int .u32 m] w fun x w' => x = .returned (.agg (row32 (stepL m [a, b, c, d, e, f, g, h]))) ∧ Below w.heap.size w w' := by
  have hz := zero8.1
  go_enter Tryd.func25, Tryd.ntmps25
  go_wp2
  go_quiet (fail)
  have hb1 : Below w.heap.size w (((w.alloc (.cells #[.int .u32 a, .int .u32 b, .int .u32 c, .int .u32 d, .int .u32 e, .int .u32 f, .int .u32 g, .int .u32 h] 43)).alloc (.cells (Array.replicate 8 (.int .u32 0)) 43)).drewN nq) :=
    below_drewN (((Below.refl _ _).alloc (Nat.le_refl _) _).alloc (by simp) _) nq
  have hh1 : (((w.alloc (.cells #[.int .u32 a, .int .u32 b, .int .u32 c, .int .u32 d, .int .u32 e, .int .u32 f, .int .u32 g, .int .u32 h] 43)).alloc (.cells (Array.replicate 8 (.int .u32 0)) 43)).drewN nq).heap[w.heap.size + 1]? = some (.cells (Array.replicate 8 (.int .u32 0)) 43 (0, 0)) := by
    have := heap_alloc_self (w.alloc (.cells #[.int .u32 a, .int .u32 b, .int .u32 c, .int .u32 d, .int .u32 e, .int .u32 f, .int .u32 g, .int .u32 h] 43)) (.cells (Array.replicate 8 (.int .u32 0)) 43)
    rw [heap_alloc_size] at this
    exact this
  generalize ((w.alloc (.cells #[.int .u32 a, .int .u32 b, .int .u32 c, .int .u32 d, .int .u32 e, .int .u32 f, .int .u32 g, .int .u32 h] 43)).alloc (.cells (Array.replicate 8 (.int .u32 0)) 43)).drewN nq = W at hb1 hh1 ⊢
  have HB := Lib.hid hb1
  have HH := Lib.hid hh1
  clear hb1 hh1
  go_wp2_with fail
  refine (turned_any e 6 11 25 _ _ _ he (by unfold Turn; omega) (by unfold Turn; omega) (by unfold Turn; omega) rfl rfl rfl _).mono ?_
  rintro x w1 ⟨rfl, rfl⟩
  go_wp2_with fail
  refine (turned_any a 2 13 22 _ _ _ ha (by unfold Turn; omega) (by unfold Turn; omega) (by unfold Turn; omega) rfl rfl rfl _).mono ?_
  rintro x w1 ⟨rfl, rfl⟩
  have le := rot3_lt (p := 6) (q := 11) (r := 25) (by omega) (by omega) (by omega) he
  have la := rot3_lt (p := 2) (q := 13) (r := 22) (by omega) (by omega) (by omega) ha
  have ec : bits .or .u32 (bits .and .u32 (e : Int) f) (bits .andNot .u32 (g : Int) e) = (ch e f g : Nat) := by
    rw [u32_and_nat _ _ he hf, u32_andNot_nat _ _ hg he, u32_or_nat _ _ (and_w hf) (and_w (by omega)), ch_code he hf hg]
  have em : bits .or .u32 (bits .or .u32 (bits .and .u32 (a : Int) b) (bits .and .u32 (a : Int) c)) (bits .and .u32 (b : Int) c) = (maj a b c : Nat) := by
    rw [u32_and_nat _ _ ha hb, u32_and_nat _ _ ha hc, u32_and_nat _ _ hb hc, u32_or_nat _ _ (and_w hb) (and_w hc), u32_or_nat _ _ (or_w (and_w hb) (and_w hc)) (and_w hc), maj_code]
  have lc := ch_lt he hf hg
  have lm := maj_lt ha hb hc
  have hv : (#[.int .u32 (((h : Int) + (rot3 6 11 25 e : Nat) + (ch e f g : Nat) + m + ((rot3 2 13 22 a : Nat) + (maj a b c : Nat))) % 4294967296), .int .u32 a, .int .u32 b, .int .u32 c, .int .u32 (((d : Int) + ((h : Int) + (rot3 6 11 25 e : Nat) + (ch e f g : Nat) + m)) % 4294967296), .int .u32 e, .int .u32 f, .int .u32 g] : Array Value) = row32 (stepL m [a, b, c, d, e, f, g, h]) := by
    simp only [row32, stepL, List.map_cons, List.map_nil, w32]
    have e1 : ((h : Int) + (rot3 6 11 25 e : Nat) + (ch e f g : Nat) + m + ((rot3 2 13 22 a : Nat) + (maj a b c : Nat))) % 4294967296 = ((((h + rot3 6 11 25 e + ch e f g + m) % 4294967296 + (rot3 2 13 22 a + maj a b c) % 4294967296) % 4294967296 : Nat) : Int) := by omega
    have e2 : ((d : Int) + ((h : Int) + (rot3 6 11 25 e : Nat) + (ch e f g : Nat) + m)) % 4294967296 = (((d + (h + rot3 6 11 25 e + ch e f g + m) % 4294967296) % 4294967296 : Nat) : Int) := by omega
    rw [e1, e2]
  have HV := Lib.hid hv
  clear hv lc lm le la
  go_wp2_with (refine wpList_store_row rfl 43 _ _ rfl (w.heap.size + 1) rfl rfl HH.out (by rw [set8, HV.out, row32_size]; exact zero8.2) (by rw [set8, HV.out, row32_size]; rfl) (by rw [set8, HV.out]; exact row32_one _) ?_; rw [set8, HV.out])
  refine bodyPost_ret (v := .agg (row32 (stepL m [a, b, c, d, e, f, g, h]))) ?_ rfl ⟨rfl, below_setRow HB.out (by omega) _⟩
  exact results_cell_row rfl _ _ (w.heap.size + 1) _ _ (0, 0) _ rfl (setRow_heap _ _ _ _ _ _ HH.out) Tryd.underlying43 rfl (by rw [row32_size]; exact zero8.2)

/-- A step. -/
theorem step_any (l : List Nat) (m : Nat) (hl : W32 8 l) (hm : m < 4294967296) (w : World) :
    Calls Tryd.prog 25 #[.agg (row32 l), .int .u32 m] w fun x w' => x = .returned (.agg (row32 (stepL m l))) ∧ Below w.heap.size w w' := by
  obtain ⟨h0, hx⟩ := hl
  match l, h0 with
  | [a, b, c, d, e, f, g, h], _ =>
    exact step_eight a b c d e f g h m (hx _ (by simp)) (hx _ (by simp)) (hx _ (by simp)) (hx _ (by simp)) (hx _ (by simp)) (hx _ (by simp)) (hx _ (by simp)) (hx _ (by simp)) hm w
end Go.Proofs.YtdaaemnfphagbaaDoor
