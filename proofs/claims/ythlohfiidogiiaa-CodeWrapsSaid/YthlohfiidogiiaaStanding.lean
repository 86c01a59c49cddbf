/-
  The iterator over the digits that stand at the beginning of some bytes: it hands out the first five, or all if there are fewer, until a round has said no more.
  Conditions: the bytes can be read as a slice.
-/
import Derived.Test.YthlohfiidogiiaaTxt
import Derived.Test.YthlohfiidogiiaaProg
import Derived.RangeFuncLeaves
import Derived.Shelf.Abstract
import Derived.WalkKit
import Derived.OwnWalkIn
import Derived.TacticsInMore
import Derived.LoopNIn
import Derived.LoopIn
import Derived.RangeFuncBound
import Derived.RangeFuncCalls
import Derived.Deep.DeepMust
import Derived.Lib.Hide
set_option linter.unusedVariables false
set_option linter.unusedSimpArgs false
namespace Go.Proofs.Ythlohfiidogiiaa
open Go.RowKit Go.Shelf

attribute [local go_sem] Oper.semAt_some

/-- What a byte is handed out as. -/
def sd (x : UInt8) : Array Value := #[.int .i64 ((x.toNat : Int) % 128), .bool (decide ((x.toNat : Int) < 128))]

theorem byte_lt (x : UInt8) : (x.toNat : Int) < 256 := by have := x.toNat_lt; omega

set_option maxRecDepth 100000 in
set_option maxHeartbeats 2000000 in
theorem standing1_some (F : Fence) (n : Nat) (hf : F.fn 24) (hro : F.round = none) (hn : 1 ≤ n) (l bn n₀ b off cap : Nat) (xs : List UInt8) (hcap : xs.length ≤ cap) (hm : cap ≤ maxLen) (hb : b < n₀) (J Jx : List UInt8 → World → Prop)
    (hY : ∀ pre x W, J pre W → pre.length < 5 → YieldAt F (n - 1) Try.prog l (sd x) W fun e W' =>
      (e = .returned (.bool true) ∧ J (pre ++ [x]) W' ∧ Below n₀ W W') ∨ (e = .returned (.bool false) ∧ Jx (pre ++ [x]) W'))
    (W : World) (hbn : W.cell? ⟨bn, 0, none⟩ = some (.slice (some ⟨b, off, none⟩) xs.length cap)) (hc : ∀ j (h : j < xs.length), W.cell? ⟨b, off + j, none⟩ = some (u8 xs[j])) (h0 : J [] W) :
    CallsIn F n Try.prog 24 #[.func (.yield l) #[] #[], .pointer (some ⟨bn, 0, none⟩)] W fun e W' => (∃ v, e = .returned v) ∧ ((∃ ys, ys = xs.take 5 ∧ J ys W') ∨ (∃ pre, pre <+: xs.take 5 ∧ Jx pre W')) := by
  unfold maxLen at hm
  have htake : ∀ k (h : k < xs.length), xs.take (k + 1) = xs.take k ++ [xs[k]] := fun k h => by rw [List.take_succ_eq_append_getElem h]
  have HT := Lib.hid htake
  have HC := Lib.hid hc
  clear htake hc
  by_cases hle : xs.length ≤ 5
  · have hmi : (xs.length : Int) ≤ 5 := by omega
    refine callsIn_of_wp Try.func24 rfl hf ?_ hro
    simp only [Try.ntmps24, List.size_toArray, List.length_cons, List.length_nil, Nat.reduceAdd, Nat.reduceSub, Array.replicate_succ, Array.replicate_zero, List.push_toArray, List.append_toArray, List.nil_append, List.cons_append]
    gi_wp2
    gi_loopw [11] (fun i wr => ∃ k : Nat, k ≤ xs.length ∧ i = .int .i64 k ∧ J (xs.take k) wr ∧ Below n₀ W wr)
      (fun i _ => xs.length - (intOf i).toNat)
    case atStart => exact ⟨0, Nat.zero_le _, rfl, h0, Below.refl _ _⟩
    case round =>
      obtain ⟨k, hk, rfl, hJs, hbl⟩ := hrel
      by_cases hlt : k < xs.length
      · have hkl : k < xs.length := by omega
        obtain ⟨fn, tmps, assign, body, hy, hR⟩ := hY _ xs[k] wr hJs (by rw [List.length_take]; omega)
        have hck := (hbl.cell (p := ⟨b, off + k, none⟩) hb).trans (HC.out k hkl)
        have hbyte := byte_lt xs[k]
        unfold u8 at hck
        dsimp only [sd] at hy
        generalize hu : (xs[k].toNat : Int) = u at hck hy hbyte
        have hu0 : 0 ≤ u := by omega
        clear hu
        gi_wp2
        refine hR.mono ?_
        rintro e W3 (⟨rfl, hJ3, hk3⟩ | ⟨rfl, hJx3⟩)
        · gi_wp2
          go_roundw
          case rel => exact ⟨k + 1, by omega, by simp, by rw [HT.out k hkl]; exact hJ3, hbl.trans hk3⟩
          case measure => simp [intOf]; omega
        · gi_wp2
          refine bodyPost_ret (results_none rfl _ _ _) rfl ?_
          exact ⟨⟨_, rfl⟩, .inr ⟨_, by rw [← HT.out k hkl]; exact List.take_prefix_take_left (by omega), hJx3⟩⟩
      · obtain rfl : k = xs.length := by omega
        gi_wp2
        go_end0
        exact ⟨⟨_, rfl⟩, .inl ⟨_, by rw [List.take_of_length_le hle]; simp, hJs⟩⟩
  · have hmi : 5 < (xs.length : Int) := by omega
    have hmi2 : 5 < xs.length := by omega
    clear hle
    refine callsIn_of_wp Try.func24 rfl hf ?_ hro
    simp only [Try.ntmps24, List.size_toArray, List.length_cons, List.length_nil, Nat.reduceAdd, Nat.reduceSub, Array.replicate_succ, Array.replicate_zero, List.push_toArray, List.append_toArray, List.nil_append, List.cons_append]
    gi_wp2
    gi_loopw [11] (fun i wr => ∃ k : Nat, k ≤ 5 ∧ i = .int .i64 k ∧ J (xs.take k) wr ∧ Below n₀ W wr)
      (fun i _ => 5 - (intOf i).toNat)
    case atStart => exact ⟨0, Nat.zero_le _, rfl, h0, Below.refl _ _⟩
    case round =>
      obtain ⟨k, hk, rfl, hJs, hbl⟩ := hrel
      by_cases hlt : k < 5
      · have hkl : k < xs.length := by omega
        obtain ⟨fn, tmps, assign, body, hy, hR⟩ := hY _ xs[k] wr hJs (by rw [List.length_take]; omega)
        have hck := (hbl.cell (p := ⟨b, off + k, none⟩) hb).trans (HC.out k hkl)
        have hbyte := byte_lt xs[k]
        unfold u8 at hck
        dsimp only [sd] at hy
        generalize hu : (xs[k].toNat : Int) = u at hck hy hbyte
        have hu0 : 0 ≤ u := by omega
        clear hu
        gi_wp2
        refine hR.mono ?_
        rintro e W3 (⟨rfl, hJ3, hk3⟩ | ⟨rfl, hJx3⟩)
        · gi_wp2
          go_roundw
          case rel => exact ⟨k + 1, by omega, by simp, by rw [HT.out k hkl]; exact hJ3, hbl.trans hk3⟩
          case measure => simp [intOf]; omega
        · gi_wp2
          refine bodyPost_ret (results_none rfl _ _ _) rfl ?_
          exact ⟨⟨_, rfl⟩, .inr ⟨_, by rw [← HT.out k hkl]; exact List.take_prefix_take_left (by omega), hJx3⟩⟩
      · obtain rfl : k = 5 := by omega
        gi_wp2
        go_end0
        exact ⟨⟨_, rfl⟩, .inl ⟨_, rfl, hJs⟩⟩

set_option maxRecDepth 100000 in
set_option maxHeartbeats 1000000 in
theorem standing1_none (F : Fence) (n : Nat) (hf : F.fn 24) (hro : F.round = none) (l bn cap : Nat) (A : Option Addr) (hm : cap ≤ maxLen) (J Jx : List UInt8 → World → Prop)
    (W : World) (hbn : W.cell? ⟨bn, 0, none⟩ = some (.slice A 0 cap)) (h0 : J [] W) :
    CallsIn F n Try.prog 24 #[.func (.yield l) #[] #[], .pointer (some ⟨bn, 0, none⟩)] W fun e W' => (∃ v, e = .returned v) ∧ ((∃ ys, ys = ([] : List UInt8) ∧ J ys W') ∨ (∃ pre, pre <+: ([] : List UInt8) ∧ Jx pre W')) := by
  unfold maxLen at hm
  refine callsIn_of_wp Try.func24 rfl hf ?_ hro
  simp only [Try.ntmps24, List.size_toArray, List.length_cons, List.length_nil, Nat.reduceAdd, Nat.reduceSub, Array.replicate_succ, Array.replicate_zero, List.push_toArray, List.append_toArray, List.nil_append, List.cons_append]
  gi_wp2
  gi_loopw [11] (fun i wr => i = .int .i64 0 ∧ J [] wr) (fun _ _ => 0)
  case atStart => exact ⟨rfl, h0⟩
  case round =>
    obtain ⟨rfl, hJs⟩ := hrel
    gi_wp2
    go_end0
    exact ⟨⟨_, rfl⟩, .inl ⟨_, rfl, hJs⟩⟩

/-- The function value that standing hands back: it keeps the slice in a box. -/
theorem standing_in (F : Fence) (n : Nat) (hf : F.fn 22) (hro : F.round = none) (v : Value) (w : World) (hv : ∃ A len cap, v = .slice A len cap) :
    CallsIn F n Try.prog 22 #[v] w fun e w' => e = .returned (.func (.func 24) #[] #[.pointer (some ⟨w.heap.size, 0, none⟩)]) ∧ w' = w.alloc (.cells #[v] 25) := by
  obtain ⟨A, len, cap, rfl⟩ := hv
  refine callsIn_of_wp Try.func22 rfl hf ?_ hro
  simp only [Try.ntmps22, List.size_toArray, List.length_cons, List.length_nil, Nat.reduceAdd, Nat.reduceSub, Array.replicate_succ, Array.replicate_zero, List.push_toArray, List.append_toArray, List.nil_append, List.cons_append]
  gi_wp2
  go_ret
  exact ⟨rfl, rfl⟩

theorem standing_stops (F : Fence) (n : Nat) (hf : F.fn 24) (hro : F.round = none) (hn : 1 ≤ n) (bn n₀ : Nat) (v : Value) (xs : List UInt8) (w : World) (hbn : bn < w.heap.size) (hn₀ : n₀ ≤ w.heap.size)
    (hc : w.cell? ⟨bn, 0, none⟩ = some v) (hx : Txt w n₀ v xs) :
    SeqStopsK F n Try.prog 24 #[.pointer (some ⟨bn, 0, none⟩)] sd (Below n₀) (fun ys => ys = xs.take 5) (fun pre => pre <+: xs.take 5) 5 w := by
  intro l J Jx W hW _ _ hY h0
  have hcW := (hW.cell (p := ⟨bn, 0, none⟩) hbn).trans hc
  obtain ⟨A, cap, rfl, hl, hm, _, hs⟩ := hx.below (hW.mono hn₀)
  by_cases h : 0 < xs.length
  · obtain ⟨b, off, rfl, hb, hcs⟩ := hs h
    exact standing1_some F n hf hro hn l bn n₀ b off cap xs hl hm hb J Jx hY W hcW hcs h0
  · obtain rfl : xs = [] := List.eq_nil_of_length_eq_zero (by omega)
    exact standing1_none F n hf hro l bn cap A hm J Jx W hcW h0
end Go.Proofs.Ythlohfiidogiiaa
