/-
 The document's own answers, as the statements' package computes them, are those of the plain functions: numbers' bytes, wrapped bytes.
 Conditions: the numbers fit an int; the bytes can be read as a slice.
-/
import Derived.Test.YteloiajocjahmaaGreatDoorSGCodG
import Derived.Test.YteloiajocjahmaaGreatDoorSGCodM
set_option linter.unusedVariables false
set_option linter.unusedSimpArgs false
namespace Go.Proofs.YteloiajocjahmaaGreatDoor
open Go.RowKit Go.Shelf

theorem own_byte1 (w : World) (t : TypeId) (z : UInt8) (d : Int) (h : (z.toNat : Int) = d) : (w.alloc (.cells #[.int .u8 d] t)).ownsRow w.heap.size t 1 (.slice (some ⟨w.heap.size, 0, none⟩) 1 1) 1 [u8 z] := by
 have hn : (w.alloc (.cells #[.int .u8 d] t)).heap[w.heap.size]? = some (.cells #[.int .u8 d] t (0, 0)) := World.alloc_heap_new w _
 refine ⟨rfl, .inr ⟨w.heap.size, 1, _, rfl, Nat.le_refl _, hn, Nat.le_refl _, by unfold maxLen; omega, rfl, ?_⟩⟩
 simp [u8, h]

theorem below_new_ (w : World) (o : Obj) : Below w.heap.size w (w.alloc o) := (Below.refl _ w).alloc (Nat.le_refl _) o
theorem bytesOf_length_six {n : Nat} (h : n ≤ 34359738368) : (bytesOf n).length ≤ 6 := by
 rw [bytesOf]
 split
 ·simp
 ·have := bytesOf_length_le (n := n / 128) (by omega)
  simp only [List.length_cons]
  omega

set_option maxHeartbeats 400000 in
theorem rbytes_ok (j : Nat) : ∀ (N : Nat) (w : World), N < j → N ≤ 34359738368 → Calls Tryz.prog 101 #[.int .i64 N] w fun e W' => ∃ u, e = .returned u ∧ W'.ownsRow w.heap.size 5 1 u (bytesOf N).length ((bytesOf N).map u8) ∧ Below w.heap.size w W' := by
 induction j with
 | zero => intro N w h; omega
 | succ j ih =>
  intro N w hj hN
  obtain ⟨i0, hi, hz0, hz1, hz2⟩ := info_parts infoByte
  by_cases hlt : N < 128
  ·have e : bytesOf N = [UInt8.ofNat N] := by rw [bytesOf, if_pos hlt]
   rw [e]
   have ho := own_byte1 w 5 (UInt8.ofNat N) (N : Int) (by rw [UInt8.toNat_ofNat']; omega)
   have HO := Lib.hid ho
   have hlt' : (N : Int) < 128 := by omega
   clear e ho ih hj
   go_enter Tryz.func101, Tryz.ntmps101
   go_wp2_with fail
   go_ret
   exact ⟨_, rfl, HO.out, (Below.refl _ _).alloc (Nat.le_refl _) _⟩
  ·have e : bytesOf N = UInt8.ofNat (N % 128 + 128) :: bytesOf (N / 128) := by rw [bytesOf, if_neg hlt]
   rw [e]
   have hl := bytesOf_length_six (n := N / 128) (by omega)
   have ho := own_byte1 w 5 (UInt8.ofNat (N % 128 + 128)) (128 + (N : Int) % 128) (by rw [UInt8.toNat_ofNat']; omega)
   have HO := Lib.hid ho
   have hi2 : ∀ w', Calls Tryz.prog 101 #[.int .i64 ((N : Int) / 128)] w' fun e W' => ∃ u, e = .returned u ∧ W'.ownsRow w'.heap.size 5 1 u (bytesOf (N / 128)).length ((bytesOf (N / 128)).map u8) ∧ Below w'.heap.size w' W' := fun w' => by
    rw [show (N : Int) / 128 = ((N / 128 : Nat) : Int) by omega]
    exact ih (N / 128) w' (by omega) (by omega)
   have HI := Lib.hid hi2
   clear hi2
   generalize hL : bytesOf (N / 128) = bs at *
   clear hL
   have hge : (128 : Int) ≤ N := by omega
   have hnl : ¬ (N : Int) < 128 := by omega
   have hNi : (N : Int) ≤ 34359738368 := by omega
   clear e ho ih hj hlt hN hge
   go_enter Tryz.func101, Tryz.ntmps101
   go_wp2_with fail
   refine (HI.out _).mono ?_
   rintro e w2 ⟨u, rfl, ho, hb⟩
   have HT := Lib.hid (Txt.own (by unfold maxLen; omega) ho)
   have HO2 := Lib.hid (owns_below HO.out hb)
   have HB := Lib.hid ((below_new_ w _).trans (hb.mono (by simp)))
   have hbs : w.heap.size ≤ w2.heap.size := HB.out.size
   clear hb
   obtain ⟨A, c, rfl⟩ := own_slice_ ho
   clear ho
   go_wp2_with (at_builtin; go_must (refine wpList_append_txt (o := ⟨some 18, _, _, _, _, _⟩) rfl (.tmp 14) (.tmp 17) _ rfl Tryz.underlying22 hi hz0 hz1 hz2 rfl HO2.out rfl HT.out (by omega) hbs ?_; intro v3 w3 hown3 hgrow3; have hg3 : World.grownBy _ w3 (Value.slice (some ⟨w.heap.size, 0, none⟩) 1 1).ownBlock := hgrow3; have O3 := Lib.hid hown3; have G3 := Lib.hid hg3; clear hown3 hgrow3 hg3))
   go_ret
   refine ⟨_, rfl, ?_, HB.out.grown G3.out hbs (fun j e => (HO2.out.lt j e).1)⟩
   have := O3.out
   rwa [show 1 + bs.length = (UInt8.ofNat (N % 128 + 128) :: bs).length by rw [List.length_cons]; omega] at this

theorem rbytes_any (N : Nat) (w : World) (hN : N ≤ 34359738368) : Calls Tryz.prog 101 #[.int .i64 N] w fun e W' => ∃ u, e = .returned u ∧ W'.ownsRow w.heap.size 5 1 u (bytesOf N).length ((bytesOf N).map u8) ∧ Below w.heap.size w W' :=
 rbytes_ok (N + 1) N w (Nat.lt_succ_self N) hN

end Go.Proofs.YteloiajocjahmaaGreatDoor
