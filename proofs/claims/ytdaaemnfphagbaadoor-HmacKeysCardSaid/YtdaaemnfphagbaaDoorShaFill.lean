/-
  Bytes, filled.
  Conditions: at most 5,000 bytes.
-/
import Derived.Test.YtdaaemnfphagbaaDoorShaBlock
import Derived.Laws.MakeOwn
set_option linter.unusedVariables false
set_option linter.unusedSimpArgs false
namespace Go.Proofs.YtdaaemnfphagbaaDoor
open Go.RowKit

theorem made_noughts (m : Nat) : madeCells (Value.int IntKind.u8 0).cells (m * 1) = rowB (List.replicate m 0) := by
  rw [Nat.mul_one]
  apply Array.ext
  · rw [size_madeCells, rowB_size, List.length_replicate]
  · intro i h1 h2
    simp [madeCells, rowB, Value.cells, u8, Nat.mod_one]
theorem rowB_set (l : List UInt8) (j : Nat) (x : UInt8) : (rowB l).setIfInBounds j (.int .u8 (x.toNat : Int)) = rowB (l.set j x) := by
  simp only [rowB, List.setIfInBounds_toArray, List.map_set]; rfl
theorem infoByteSize : (Tryd.prog.info? 5).map (·.size) = some 1 := by kernel_rfl
theorem txt_of_block {w : World} {b : Nat} {l : List UInt8} {t : TypeId} {fr : Nat × Nat} (h : w.heap[b]? = some (.cells (rowB l) t fr)) (hl : l.length ≤ maxLen) : Txt w w.heap.size (.slice (some ⟨b, 0, none⟩) l.length l.length) l :=
  ⟨_, _, rfl, Nat.le_refl _, hl, fun e => (by cases e), fun _ => ⟨b, 0, rfl, heap_lt h, fun j hj => by
    rw [Nat.zero_add, cell_of_row _ _ _ _ _ _ h]; exact rowB_at hj⟩⟩

theorem splice_noughts (xs : List UInt8) (m : Nat) (h : xs.length ≤ m) : (splice ((List.replicate m (0 : UInt8)).map u8) 0 (xs.map u8)).toArray = rowB (xs ++ List.replicate (m - xs.length) 0) := by
  simp [splice, rowB]

set_option maxHeartbeats 1000000 in
theorem filled_any (v : Value) (xs : List UInt8) (hl : xs.length ≤ 5000) (w : World) (hx : Txt w w.heap.size v xs) :
    Calls Tryd.prog 17 #[v] w fun e w' => e = .returned (.slice (some ⟨w.heap.size, 0, none⟩) (fill xs).length (fill xs).length) ∧ w'.heap[w.heap.size]? = some (.cells (rowB (fill xs)) 5 (0, 0)) ∧ Below w.heap.size w w' := by
  obtain ⟨A, cap, rfl, h1, h2, hn, h3⟩ := hx
  unfold maxLen at h2
  have H3 := Lib.hid h3
  have HN := Lib.hid hn
  clear h3 hn
  obtain ⟨i0, hi, hz0, hz1, hz2⟩ := info_parts infoByte
  obtain ⟨m, hm⟩ : ∃ m, m = 64 * ((xs.length + 8) / 64 + 1) := ⟨_, rfl⟩
  have hm' : (((xs.length : Int) + 8) / 64 + 1) * 64 = m := by omega
  have hmk : ∀ w' : World, (Instr.makeSlice 26 (.int .i64 (m : Int)) (.int .i64 (m : Int))).run Tryd.prog w' = .ok (.slice (some ⟨w'.heap.size, 0, none⟩) m m) (w'.alloc (.cells (rowB (List.replicate m 0)) 5)) := fun w' => by
    have := run_make (P := Tryd.prog) w' 26 5 i0 _ Tryd.underlying26 hi hz0 .i64 .i64 m m (by omega) (by omega) (by rw [hz2]; omega) (by omega)
    rw [this]
    rw [hz1]
    show Result.ok _ (w'.alloc (.cells (madeCells _ ((m : Int).toNat * 1)) _)) = _
    rw [Int.toNat_natCast, made_noughts]
  have hcp : ∀ w2 : World, Hid (w2.heap[w.heap.size]? = some (.cells (splice ((List.replicate m (0 : UInt8)).map u8) 0 (xs.map u8)).toArray 5 (0, 0))) →
      w2.heap[w.heap.size]? = some (.cells (rowB (xs ++ List.replicate (m - xs.length) 0)) 5 (0, 0)) ∧ (∃ v, w2.cell? ⟨w.heap.size, xs.length, none⟩ = some v) ∧ w2.frozen? ⟨w.heap.size, xs.length, none⟩ = false := by
    intro w2 hg2
    have hrow : w2.heap[w.heap.size]? = some (.cells (rowB (xs ++ List.replicate (m - xs.length) 0)) 5 (0, 0)) := by
      rw [← splice_noughts xs m (by omega)]; exact hg2.out
    exact ⟨hrow, ⟨_, (cell_of_row w2 w.heap.size xs.length _ _ _ hrow).trans (rowB_at (by rw [List.length_append, List.length_replicate]; omega))⟩, frozen_of_row w2 w.heap.size xs.length _ _ hrow⟩
  have HCP := Lib.hid hcp
  clear hcp
  have HM := Lib.hid hm
  clear hm hi hz0 hz1 hz2
  go_enter Tryd.func17, Tryd.ntmps17
  go_wp2_with (refine wpList_copy_splice (o := ⟨some 17, _, _, _, _, _⟩) rfl (.tmp 15) (.tmp 16) _ _ rfl 5 Tryd.underlying26 infoByteSize _ _ m m xs.length cap rfl rfl w.heap.size 0 ((List.replicate m 0).map u8) _ (heap_alloc_self _ _) (xs.map u8) (by have := HM.out; rw [List.length_map]; exact (Nat.min_eq_left (by omega)).symm) (fun hp => by
      rw [List.length_map] at hp
      obtain ⟨b, off, rfl, hlt, hc⟩ := H3.out hp
      refine ⟨rfl, _, rfl, fun j v hj => ?_⟩
      rw [List.getElem?_map] at hj
      obtain ⟨x, hx1, rfl⟩ := Option.map_eq_some_iff.1 hj
      obtain ⟨hj1, rfl⟩ := List.getElem?_eq_some_iff.1 hx1
      rw [Addr.add_lit, World.cell?_alloc_lt _ _ _ (show b < w.heap.size from hlt)]
      exact hc j hj1) (by have := HM.out; rw [List.length_map, List.length_map, List.length_replicate]; omega) (u8s_oneCell xs) w.heap.size w (below_new w _) (Nat.le_refl _) ?_; intro w2 hg2 hb2; obtain ⟨hrow, ⟨vc, hc⟩, hf⟩ := HCP.out w2 hg2; have HR2 := Lib.hid hrow; have HB2 := Lib.hid hb2; clear hrow hb2 hg2)
  clear hmk HCP
  have hset := partF_zero xs
  rw [← HM.out] at hset
  have hv : (w2.setCell ⟨w.heap.size, xs.length, none⟩ (.int .u8 128)).heap[w.heap.size]? = some (.cells (rowB (partF xs 0)) 5 (0, 0)) := by
    rw [heap_setCell_same _ _ _ _ _ _ HR2.out, ← hset, ← rowB_set]; rfl
  have hb3 : Below w.heap.size w (w2.setCell ⟨w.heap.size, xs.length, none⟩ (.int .u8 128)) := HB2.out.setCell (Nat.le_refl _) _
  generalize w2.setCell ⟨w.heap.size, xs.length, none⟩ (.int .u8 128) = w3 at hv hb3 ⊢
  have HV := Lib.hid hv
  have HB := Lib.hid hb3
  clear hv hb3 hset hc hf HR2 HB2
  have hm1 : 64 ≤ m := by have := HM.out; omega
  have hm2 : m ≤ 6000 := by have := HM.out; omega
  go_loopw [5, 26] (fun s5 s26 wr => ∃ i : Nat, i ≤ 8 ∧ s5 = .int .u64 ((8 * xs.length / 2 ^ (8 * i) : Nat) : Int) ∧ s26 = .int .i64 i ∧ wr.heap[w.heap.size]? = some (.cells (rowB (partF xs i)) 5 (0, 0)) ∧ Below w.heap.size w wr) (fun _ s26 _ => 8 - (intOf s26).toNat)
  case atStart => exact ⟨0, by omega, by congr 1; omega, rfl, HV.out, HB.out⟩
  case round =>
    obtain ⟨i, hi, rfl, rfl, q0, q1⟩ := hrel
    clear HV HB
    have Q0 := Lib.hid q0
    have Q1 := Lib.hid q1
    clear q1
    by_cases hlt : i < 8
    · have hlt' : (i : Int) < 8 := by omega
      have hlen := partF_length xs (i := i) (by omega)
      rw [← HM.out] at hlen
      have hset := partF_set xs hlt
      rw [← HM.out] at hset
      have hnext : 8 * xs.length / 2 ^ (8 * (i + 1)) = 8 * xs.length / 2 ^ (8 * i) / 256 := by
        rw [Nat.div_div_eq_div_mul, show (256 : Nat) = 2 ^ 8 from rfl, ← Nat.pow_add]
        congr 2
      have hLl : 8 * xs.length / 2 ^ (8 * i) ≤ 40000 := Nat.le_trans (Nat.div_le_self _ _) (by omega)
      obtain ⟨k, hk⟩ : ∃ k, k = m - 1 - i := ⟨_, rfl⟩
      rw [← hk] at hset
      have hkI : (m : Int) - 1 - i = k := by omega
      obtain ⟨y, hc⟩ : ∃ y, wr.cell? ⟨w.heap.size, k, none⟩ = some y := ⟨_, (cell_of_row wr w.heap.size k _ _ _ q0).trans (rowB_at (l := partF xs i) (j := k) (by omega))⟩
      have hf := frozen_of_row wr w.heap.size k _ _ q0
      have hk1 : (k : Int) < m := by omega
      have hrow : (rowB (partF xs i)).setIfInBounds k (.int .u8 (((8 * xs.length / 2 ^ (8 * i) : Nat) : Int) % 256)) = rowB (partF xs (i + 1)) := by
        rw [← hset, ← rowB_set, UInt8.toNat_ofNat']
        congr 2
      have HSET := Lib.hid hrow
      have HNEXT := Lib.hid hnext
      clear hset hnext hrow q0 hk hlen
      generalize 8 * xs.length / 2 ^ (8 * i) = L at *
      go_wp2
      go_roundw
      case measure => simp [intOf]; omega
      case rel =>
        refine ⟨i + 1, by omega, ?_, by go_num, ?_, Q1.out.setCell (Nat.le_refl _) _⟩
        · rw [HNEXT.out]; congr 1
        · rw [heap_setCell_same _ _ _ _ _ _ Q0.out, HSET.out]
    · obtain rfl : i = 8 := by omega
      have hlt' : ¬ (8 : Int) < 8 := by omega
      rw [partF_all] at Q0
      have hfl := fill_length xs
      rw [← HM.out] at hfl
      have HFL := Lib.hid hfl
      clear q0 hfl
      go_wp2
      go_ret
      exact ⟨by rw [HFL.out]; rfl, Q0.out, Q1.out⟩
end Go.Proofs.YtdaaemnfphagbaaDoor
