/-
  The chapter's first example.
  Conditions: the table of constants reads as it was laid.
-/
import Derived.Test.YtdaaemnfphagbaaDoorHmacTag
import Derived.Test.YtdaaemnfphagbaaDoorHmacSame
set_option linter.unusedVariables false
set_option linter.unusedSimpArgs false
namespace Go.Proofs.YtdaaemnfphagbaaDoor
open Go.RowKit

def e11 : List UInt8 := List.replicate 20 11
theorem e11_length : e11.length = 20 := rfl
theorem e11_at {i : Nat} (h : i < e11.length) : e11[i] = 11 := List.getElem_replicate _
def z20 : List UInt8 := List.replicate 20 0

set_option maxHeartbeats 1000000 in
theorem eleven_any (w : World) : Calls Tryd.prog 15 #[] w fun e w' => e = .returned (.slice (some ⟨w.heap.size, 0, none⟩) 20 20) ∧ w'.heap[w.heap.size]? = some (.cells (rowB e11) 5 (0, 0)) ∧ Below w.heap.size w w' := by
  have hmk : ∀ w' : World, (Instr.makeSlice 26 (.int .i64 20) (.int .i64 20)).run Tryd.prog w' = .ok (.slice (some ⟨w'.heap.size, 0, none⟩) 20 20) (w'.alloc (.cells (rowB z20) 5)) := make_noughts 20 (by omega)
  go_enter Tryd.func15, Tryd.ntmps15
  go_wp2_with fail
  have hv : (w.alloc (.cells (rowB z20) 5)).heap[w.heap.size]? = some (.cells (rowB (tf e11 0 0)) 5 (0, 0)) := by
    rw [tf_zero, e11_length]; exact heap_alloc_self _ _
  have hb := below_new w (.cells (rowB z20) 5)
  generalize w.alloc (.cells (rowB z20) 5) = q at hv hb ⊢
  have V := Lib.hid hv
  have B := Lib.hid hb
  clear hv hb hmk
  go_loopw [2] (fun s2 wr => ∃ i : Nat, i ≤ 20 ∧ s2 = .int .i64 i ∧ wr.heap[w.heap.size]? = some (.cells (rowB (tf e11 0 i)) 5 (0, 0)) ∧ Below w.heap.size w wr) (fun s2 _ => 20 - (intOf s2).toNat)
  case atStart => exact ⟨0, by omega, rfl, V.out, B.out⟩
  case round =>
    obtain ⟨i, hi, rfl, q0, q1⟩ := hrel
    clear V B
    have Q0 := Lib.hid q0
    have Q1 := Lib.hid q1
    clear q0 q1
    by_cases hlt : i < 20
    · have hlt' : (i : Int) < 20 := by omega
      have hset := tf_set e11 0 (i := i) (by rw [e11_length]; exact hlt)
      rw [e11_at] at hset
      have hrow : (rowB (tf e11 0 i)).setIfInBounds i (.int .u8 11) = rowB (tf e11 0 (i + 1)) := by
        rw [← hset, ← rowB_set]; rfl
      obtain ⟨y, hc⟩ : ∃ y, wr.cell? ⟨w.heap.size, i, none⟩ = some y := ⟨_, (cell_of_row wr w.heap.size i _ _ _ Q0.out).trans (rowB_at (l := tf e11 0 i) (j := i) (by rw [tf_length _ _ (by rw [e11_length]; omega), e11_length]; exact hlt))⟩
      have hf := frozen_of_row wr w.heap.size i _ _ Q0.out
      have HSET := Lib.hid hrow
      clear hset hrow
      go_wp2
      go_roundw
      case measure => simp [intOf]; omega
      case rel => exact ⟨i + 1, by omega, by go_num, by rw [heap_setCell_same _ _ _ _ _ _ Q0.out, HSET.out], Q1.out.setCell (Nat.le_refl _) _⟩
    · obtain rfl : i = 20 := by omega
      have hlt' : ¬ (20 : Int) < 20 := by omega
      have hall := tf_all e11 (0 : UInt8)
      rw [e11_length] at hall
      rw [hall] at Q0
      clear hall
      go_wp2
      go_ret
      exact ⟨rfl, Q0.out, Q1.out⟩

theorem tag_alive (b : Nat) (u : World) (hb : u.heap[b]? = some (.cells (rowB e11) 5 (0, 0))) (hT : Tab u) (fr : Nat × Nat) :
    Calls Tryd.prog 8 #[.slice (some ⟨b, 0, none⟩) 20 20, .slice (some ⟨u.heap.size, 0, none⟩) 8 8] (u.alloc (.cells (([72, 105, 32, 84, 104, 101, 114, 101] : List UInt8).map u8).toArray 5 fr)) fun e w' =>
      e = .returned (.tuple #[.agg (rowB [176, 52, 76, 97, 216, 219, 56, 83, 92, 168, 175, 206, 175, 11, 241, 43, 136, 29, 194, 0, 201, 131, 61, 167, 38, 233, 55, 108, 46, 50, 207, 247]), .int .i64 0]) ∧ Below u.heap.size u w' := by
  have htx : Txt u u.heap.size (.slice (some ⟨b, 0, none⟩) 20 20) e11 := txt_of_block hb (by rw [e11_length]; unfold maxLen; omega)
  have hbn := below_new u (.cells (([72, 105, 32, 84, 104, 101, 114, 101] : List UInt8).map u8).toArray 5 fr)
  refine (tag_any _ _ e11 [72, 105, 32, 84, 104, 101, 114, 101] (by rw [e11_length]; omega) (by decide) _ (hT.below hbn hT.pos) ((htx.below hbn).more hbn.size) (txt_mark u _ _ fr (by unfold maxLen; decide))).mono ?_
  rintro e w' ⟨rfl, b'⟩
  exact ⟨by rw [show tagL e11 [72, 105, 32, 84, 104, 101, 114, 101] = _ from tag_eleven], hbn.trans (b'.mono hbn.size)⟩

set_option maxHeartbeats 1000000 in
theorem alive_true (w : World) (hT : Tab w) : Calls Tryd.prog 9 #[] w fun e W' => e = .returned (.bool true) ∧ Below w.heap.size w W' := by
  have HT := Lib.hid hT
  clear hT
  have kc := fun (w : World) (C : Array Value) (n c : Nat) => Lib.run_convert_bytes_const (P := Tryd.prog) w 26 5 C n c Tryd.underlying26 Tryd.underlying5
  go_enter Tryd.func9, Tryd.ntmps9
  go_wp2_with fail
  refine (eleven_any _).mono ?_
  rintro e w1 ⟨rfl, he, b⟩
  have B1 := Lib.hid b
  have E1 := Lib.hid he
  clear b he
  go_wp2_with fail
  refine (tag_alive _ _ E1.out (HT.out.below B1.out HT.out.pos) _).mono ?_
  rintro e w2 ⟨rfl, b⟩
  have B2 := Lib.hid (B1.out.trans (b.mono B1.out.size))
  clear b B1 E1 kc
  obtain ⟨S, hS⟩ : ∃ S : List UInt8, S = [176, 52, 76, 97, 216, 219, 56, 83, 92, 168, 175, 206, 175, 11, 241, 43, 136, 29, 194, 0, 201, 131, 61, 167, 38, 233, 55, 108, 46, 50, 207, 247] := ⟨_, rfl⟩
  rw [← hS]
  have HL : Hid (S.length = 32) := Lib.hid (by rw [hS]; rfl)
  have y0 : (rowB S)[0]? = some (.int .u8 176) := by rw [hS]; rfl
  have y1 : (rowB S)[1]? = some (.int .u8 52) := by rw [hS]; rfl
  have y2 : (rowB S)[2]? = some (.int .u8 76) := by rw [hS]; rfl
  have y3 : (rowB S)[3]? = some (.int .u8 97) := by rw [hS]; rfl
  have y4 : (rowB S)[31]? = some (.int .u8 247) := by rw [hS]; rfl
  clear hS
  have hc : ∀ j : Nat, (w2.alloc (.cells (rowB S) 22)).cell? ⟨w2.heap.size, j, none⟩ = (rowB S)[j]? := fun j => World.cell?_alloc_new _ _ _ _
  have c0 := (hc 0).trans y0
  have c1 := (hc 1).trans y1
  have c2 := (hc 2).trans y2
  have c3 := (hc 3).trans y3
  have c4 := (hc 31).trans y4
  clear hc y0 y1 y2 y3 y4
  have BZ : Hid (Below w.heap.size w (w2.alloc (.cells (rowB S) 22))) := Lib.hid (B2.out.alloc B2.out.size _)
  go_wp2_with (refine wpList_store_row rfl 22 _ _ rfl w2.heap.size rfl rfl (heap_alloc_self _ _) (by rw [rowB_size, HL.out]; exact zero32.2) (by rw [rowB_size, HL.out]; simp) (rowB_one _) ?_; rw [World.setRow_alloc_new])
  go_ret
  exact ⟨rfl, BZ.out⟩
end Go.Proofs.YtdaaemnfphagbaaDoor
