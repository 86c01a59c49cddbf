/-
  The statement's own function: a key's block, each byte of it turned.
  Conditions: a key of at most 64 bytes.
-/
import Derived.Test.YtdaaemnfphagbaaDoorHmacNames
set_option linter.unusedVariables false
set_option linter.unusedSimpArgs false
namespace Go.Proofs.YtdaaemnfphagbaaDoor
open Go.RowKit

theorem turnK_padK_at {key : List UInt8} {t : UInt8} {i : Nat} (h : i < 64) : (turnK (padK key) t)[i]? = some (key.getD i 0 ^^^ t) := by
  rw [turnK, List.getElem?_map, padK_at h]; rfl
def z64 : List UInt8 := List.replicate 64 0
theorem set_set_same (r : Array Value) (i : Nat) (x y : Value) : (r.setIfInBounds i x).setIfInBounds i y = r.setIfInBounds i y := by
  simp

set_option maxHeartbeats 1000000 in
theorem block_own (t : UInt8) (v : Value) (key : List UInt8) (hk : key.length ≤ 64) (w : World) (hx : Txt w w.heap.size v key) :
    Calls Tryd.prog 13 #[v, .int .u8 (t.toNat : Int)] w fun e w' => e = .returned (.slice (some ⟨w.heap.size, 0, none⟩) 64 64) ∧ w'.heap[w.heap.size]? = some (.cells (rowB (turnK (padK key) t)) 5 (0, 0)) ∧ Below w.heap.size w w' := by
  obtain ⟨A, cap, rfl, h1, h2, hn, h3⟩ := hx
  have H3 := Lib.hid h3
  clear h2 hn h3
  have hmk : ∀ w' : World, (Instr.makeSlice 26 (.int .i64 64) (.int .i64 64)).run Tryd.prog w' = .ok (.slice (some ⟨w'.heap.size, 0, none⟩) 64 64) (w'.alloc (.cells (rowB z64) 5)) := make_noughts 64 (by omega)
  obtain ⟨T, hTT⟩ : ∃ T, T = turnK (padK key) t := ⟨_, rfl⟩
  have TL : Hid (T.length = 64) := Lib.hid (by rw [hTT, turnK_length]; exact padK_length hk)
  have TA : Hid (∀ i, i < 64 → T[i]? = some (key.getD i 0 ^^^ t)) := Lib.hid (fun i hi => by rw [hTT]; exact turnK_padK_at hi)
  rw [← hTT]
  clear hTT
  go_enter Tryd.func13, Tryd.ntmps13
  go_wp2_with fail
  have hv : (w.alloc (.cells (rowB z64) 5)).heap[w.heap.size]? = some (.cells (rowB (tf T 0 0)) 5 (0, 0)) := by
    rw [tf_zero, TL.out]; exact heap_alloc_self _ _
  have hb := below_new w (.cells (rowB z64) 5)
  generalize w.alloc (.cells (rowB z64) 5) = q at hv hb ⊢
  have V := Lib.hid hv
  have B := Lib.hid hb
  clear hv hb hmk
  go_loopw [6] (fun s6 wr => ∃ i : Nat, i ≤ 64 ∧ s6 = .int .i64 i ∧ wr.heap[w.heap.size]? = some (.cells (rowB (tf T 0 i)) 5 (0, 0)) ∧ Below w.heap.size w wr) (fun s6 _ => 64 - (intOf s6).toNat)
  case atStart => exact ⟨0, by omega, rfl, V.out, B.out⟩
  case round =>
    obtain ⟨i, hi, rfl, q0, q1⟩ := hrel
    clear V B
    have Q0 := Lib.hid q0
    have Q1 := Lib.hid q1
    clear q0 q1
    by_cases hlt : i < 64
    · have hlt' : (i : Int) < 64 := by omega
      have hti := TA.out i hlt
      have hset := tf_set T 0 (i := i) (by rw [TL.out]; exact hlt)
      rw [show T[i]'(by rw [TL.out]; exact hlt) = key.getD i 0 ^^^ t from Option.some.inj ((List.getElem?_eq_getElem _).symm.trans hti)] at hset
      obtain ⟨y, hc⟩ : ∃ y, wr.cell? ⟨w.heap.size, i, none⟩ = some y := ⟨_, (cell_of_row wr w.heap.size i _ _ _ Q0.out).trans (rowB_at (l := tf T 0 i) (j := i) (by rw [tf_length _ _ (by rw [TL.out]; omega), TL.out]; exact hlt))⟩
      have hf := frozen_of_row wr w.heap.size i _ _ Q0.out
      have hh1 : (wr.setCell ⟨w.heap.size, i, none⟩ (.int .u8 (t.toNat : Int))).heap[w.heap.size]? = some (.cells ((rowB (tf T 0 i)).setIfInBounds i (.int .u8 (t.toNat : Int))) 5 (0, 0)) := heap_setCell_same _ _ _ _ _ _ Q0.out
      have hb1 : Below w.heap.size w (wr.setCell ⟨w.heap.size, i, none⟩ (.int .u8 (t.toNat : Int))) := Q1.out.setCell (Nat.le_refl _) _
      by_cases hik : i < key.length
      · have hik' : (i : Int) < key.length := by omega
        obtain ⟨b, off, rfl, hlt2, hcell⟩ := H3.out (by omega)
        have hki := (hb1.cell (p := ⟨b, off + i, none⟩) hlt2).trans (hcell i hik)
        have hkg : key.getD i 0 = key[i] := by rw [List.getD_eq_getElem?_getD, List.getElem?_eq_getElem hik]; rfl
        rw [hkg] at hset
        generalize key[i] = x at hki hset
        have hxor : bits .xor .u8 (t.toNat : Int) (x.toNat : Int) = (((x ^^^ t).toNat : Nat) : Int) := by rw [xor_int, UInt8.xor_comm]
        have hki' : (wr.setCell ⟨w.heap.size, i, none⟩ (.int .u8 (t.toNat : Int))).cell? ⟨b, off + i, none⟩ = some (.int .u8 (x.toNat : Int)) := hki
        have hrow : ((rowB (tf T 0 i)).setIfInBounds i (.int .u8 (t.toNat : Int))).setIfInBounds i (.int .u8 (((x ^^^ t).toNat : Nat) : Int)) = rowB (tf T 0 (i + 1)) := by
          rw [set_set_same, ← hset, ← rowB_set]
        have HROW := Lib.hid hrow
        have HH1 := Lib.hid hh1
        have HB1 := Lib.hid hb1
        generalize x ^^^ t = z at hxor HROW
        have hf2 := frozen_of_row _ w.heap.size i _ _ hh1
        obtain ⟨y2, hc2⟩ : ∃ y2, (wr.setCell ⟨w.heap.size, i, none⟩ (.int .u8 (t.toNat : Int))).cell? ⟨w.heap.size, i, none⟩ = some y2 := ⟨.int .u8 (t.toNat : Int), by rw [cell_of_row _ _ _ _ _ _ hh1]; rw [Array.getElem?_setIfInBounds_self_of_lt]; rw [rowB_size, tf_length _ _ (by rw [TL.out]; omega), TL.out]; exact hlt⟩
        clear hrow hset hti hh1 hb1 hki hkg
        go_wp2
        go_roundw
        case measure => simp [intOf]; omega
        case rel => exact ⟨i + 1, by omega, by go_num, by rw [heap_setCell_same _ _ _ _ _ _ HH1.out, HROW.out], HB1.out.setCell (Nat.le_refl _) _⟩
      · have hik' : ¬ (i : Int) < key.length := by omega
        have hkg : key.getD i 0 = 0 := by rw [List.getD_eq_getElem?_getD, List.getElem?_eq_none (by omega)]; rfl
        rw [hkg, UInt8.zero_xor] at hset
        have hrow : (rowB (tf T 0 i)).setIfInBounds i (.int .u8 (t.toNat : Int)) = rowB (tf T 0 (i + 1)) := by
          rw [← hset, ← rowB_set]
        have HROW := Lib.hid hrow
        have HH1 := Lib.hid hh1
        have HB1 := Lib.hid hb1
        clear hrow hset hti hh1 hb1 hkg
        go_wp2
        go_roundw
        case measure => simp [intOf]; omega
        case rel => exact ⟨i + 1, by omega, by go_num, by rw [HH1.out, HROW.out], HB1.out⟩
    · obtain rfl : i = 64 := by omega
      have hlt' : ¬ (64 : Int) < 64 := by omega
      have hall := tf_all T (0 : UInt8)
      rw [TL.out] at hall
      rw [hall] at Q0
      clear hall
      go_wp2
      go_ret
      exact ⟨rfl, Q0.out, Q1.out⟩

theorem own_of_block {w : World} {base g : Nat} {l : List UInt8} (hb : base ≤ g) (h : w.heap[g]? = some (.cells (rowB l) 5 (0, 0))) (hm : l.length ≤ maxLen) : w.ownsRow base 5 1 (.slice (some ⟨g, 0, none⟩) l.length l.length) l.length (l.map u8) :=
  ⟨by simp, .inr ⟨g, l.length, rowB l, rfl, hb, h, Nat.le_refl _, hm, by rw [rowB_size]; omega, by rw [Nat.mul_one]; exact List.take_of_length_le (by simp [rowB])⟩⟩
/-- The block as a row of the call's own, for an append. -/
theorem kblock_any (t : UInt8) (T : Int) (hT : T = (t.toNat : Int)) (v : Value) (key : List UInt8) (hk : key.length ≤ 64) (w : World) (hx : Txt w w.heap.size v key) :
    Calls Tryd.prog 13 #[v, .int .u8 T] w fun e w' => e = .returned (.slice (some ⟨w.heap.size, 0, none⟩) 64 64) ∧ w'.ownsRow w.heap.size 5 1 (.slice (some ⟨w.heap.size, 0, none⟩) 64 64) 64 ((turnK (padK key) t).map u8) ∧ Below w.heap.size w w' := by
  subst hT
  refine (block_own t v key hk w hx).mono ?_
  rintro e w' ⟨rfl, h, b⟩
  have hl : (turnK (padK key) t).length = 64 := by rw [turnK_length]; exact padK_length hk
  have := own_of_block (Nat.le_refl _) h (by rw [hl]; unfold maxLen; omega)
  rw [hl] at this
  exact ⟨rfl, this, b⟩
end Go.Proofs.YtdaaemnfphagbaaDoor
