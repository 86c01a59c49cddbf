/-
  The closure that puts numbers into memory, each behind the one ahead.
  Conditions: as many bytes are left as the number is to have.
-/
import Derived.Test.YtdjoflhcagfmiaaSlotMath
import Derived.Test.YtdjoflhcagfmiaaDevClone
import Derived.Test.YtdjoflhcagfmiaaRowB
import Derived.Laws.ShiftsVar
import Derived.Laws.ShiftsVarLaws
set_option linter.unusedVariables false
set_option linter.unusedSimpArgs false
set_option maxRecDepth 100000
namespace Go.Proofs.Ytdjoflhcagfmiaa
open Go.RowKit

/-- Two blocks alone may have changed. -/
structure Only2 (w W : World) (a b : Nat) : Prop where
  os : W.os = w.os
  tape : W.tape = w.tape
  output : W.output = w.output
  size : W.heap.size = w.heap.size
  block : ∀ k, k ≠ a → k ≠ b → W.heap[k]? = w.heap[k]?
theorem Only2.refl (w : World) (a b : Nat) : Only2 w w a b := ⟨rfl, rfl, rfl, rfl, fun _ _ _ => rfl⟩
theorem Only2.trans {w v W : World} {a b : Nat} (h : Only2 w v a b) (k : Only2 v W a b) : Only2 w W a b :=
  ⟨k.os.trans h.os, k.tape.trans h.tape, k.output.trans h.output, k.size.trans h.size, fun i h1 h2 => (k.block i h1 h2).trans (h.block i h1 h2)⟩
theorem Only2.set {w : World} {a b c j : Nat} (hc : c = a ∨ c = b) (x : Value) : Only2 w (w.setCell ⟨c, j, none⟩ x) a b :=
  ⟨rfl, rfl, rfl, by simp [World.setCell], fun k h1 h2 => Below.heap_setCell w ⟨c, j, none⟩ x k (by rcases hc with rfl | rfl <;> assumption)⟩
theorem Only2.below {w W : World} {a b B : Nat} (h : Only2 w W a b) (ha : B ≤ a) (hb : B ≤ b) (hB : B ≤ w.heap.size) : Below B w W :=
  ⟨h.os, h.tape, h.output, by rw [h.size]; exact Nat.le_refl _, fun k hk => h.block k (by omega) (by omega)⟩

/-- Bytes with others laid on them from a place on. -/
def putB (bs : Bs) (off : Nat) (xs : Bs) : Bs := bs.take off ++ xs ++ bs.drop (off + xs.length)
theorem putB_length {bs : Bs} {off : Nat} {xs : Bs} (h : off + xs.length ≤ bs.length) : (putB bs off xs).length = bs.length := by
  simp only [putB, List.length_append, List.length_take, List.length_drop]; omega
theorem putB_nil (bs : Bs) (off : Nat) : putB bs off [] = bs := by simp [putB]
theorem le_snoc (k n : Nat) : le (k + 1) n = le k n ++ [UInt8.ofNat (n / 256 ^ k)] := by
  induction k generalizing n with
  | zero => simp [le]
  | succ k ih => rw [le, ih (n / 256), le, List.cons_append, Nat.div_div_eq_div_mul, Nat.pow_succ, Nat.mul_comm 256]
theorem putB_snoc {bs : Bs} {off : Nat} {xs : Bs} {x : UInt8} (h : off + xs.length < bs.length) : (putB bs off xs).set (off + xs.length) x = putB bs off (xs ++ [x]) := by
  have h1 : (bs.take off ++ xs).length = off + xs.length := by rw [List.length_append, List.length_take]; omega
  rw [putB, List.set_append_right _ _ (by omega), h1, Nat.sub_self, List.drop_eq_getElem_cons h, List.set_cons_zero, putB, List.length_append, List.length_singleton, ← List.append_assoc, List.append_assoc (bs.take off ++ xs) [x]]
  rfl

/-- Where the closure stands: its box, and the memory that it goes through. -/
def PutAt (W : World) (bx m off r : Nat) (bs : Bs) (t : TypeId) : Prop :=
  off + r = bs.length ∧ (∃ o, W.heap[bx]? = some (.cells #[.slice (some ⟨m, o, none⟩) r r] 34 (0, 0)) ∧ (0 < r → o = off)) ∧ W.heap[m]? = some (.cells (rowB bs) t (0, 0))

theorem putter_made (A : Option Addr) (n c : Nat) (w : World) :
    Calls Try.prog 85 #[.slice A n c] w fun e w' => e = .returned (.func (.func 96) #[] #[.pointer (some ⟨w.heap.size, 0, none⟩)]) ∧ w' = w.alloc (.cells #[.slice A n c] 34) := by
  have hmf : ∀ (fn : Fn) (first cap : Array Value) (w : World), (Instr.makeFunc fn first cap).run Try.prog w = .ok (.func fn first cap) w := fun _ _ _ _ => rfl
  go_enter Try.func85, Try.ntmps85
  go_wp2
  go_ret
  exact ⟨rfl, rfl⟩

set_option maxHeartbeats 1000000 in
theorem put1_any (bx m off r n k : Nat) (bs : Bs) (t : TypeId) (w : World) (hn : n < 4294967296) (hk : k ≤ r) (hk4 : k ≤ 4) (hne : bx ≠ m) (h : PutAt w bx m off r bs t) :
    Calls Try.prog 96 #[.int .u32 n, .int .i64 k, .pointer (some ⟨bx, 0, none⟩)] w fun e w' => (∃ v, e = .returned v) ∧ PutAt w' bx m (off + k) (r - k) (putB bs off (le k n)) t ∧ Only2 w w' bx m := by
  have H := Lib.hid h
  clear h
  have HN := Lib.hid hne
  have LP : Hid (off + r = bs.length) := Lib.hid H.out.1
  clear hne
  go_enter Try.func96, Try.ntmps96
  go_wp2_with fail
  go_loopw [0, 6] (fun s0 s6 wr => ∃ i : Nat, i ≤ k ∧ s0 = .int .u32 ((n / 256 ^ i : Nat) : Int) ∧ s6 = .int .i64 i ∧ PutAt wr bx m (off + i) (r - i) (putB bs off (le i n)) t ∧ Only2 w wr bx m) (fun _ s6 _ => k - (intOf s6).toNat)
  case atStart => exact ⟨0, by omega, by simp, rfl, by simpa [le, putB_nil] using H.out, Only2.refl _ _ _⟩
  case round =>
    obtain ⟨i, hi, rfl, rfl, hp, ho⟩ := hrel
    clear H
    obtain ⟨p0, ⟨o, p1, p2⟩, p3⟩ := hp
    have HO := Lib.hid ho
    clear ho
    by_cases hlt : i < k
    · have hlt' : (i : Int) < k := by omega
      obtain rfl := p2 (by omega)
      have hc := cell_of_row wr bx 0 _ _ _ p1
      generalize hN : n / 256 ^ i = N
      have hNlt : N < 4294967296 := by rw [← hN]; exact Nat.lt_of_le_of_lt (Nat.div_le_self _ _) hn
      have hpl : off + i < (putB bs off (le i n)).length := by rw [← p0]; omega
      obtain ⟨y, hce⟩ : ∃ y, wr.cell? ⟨m, off + i, none⟩ = some y := ⟨_, (cell_of_row wr m (off + i) _ _ _ p3).trans (rowB_at hpl)⟩
      have hf := frozen_of_row wr m (off + i) _ _ p3
      have hx : (N : Int) % 256 = ((UInt8.ofNat N).toNat : Int) := by simp
      have hq1 := heap_setCell_same wr m (off + i) _ _ (.int .u8 ((N : Int) % 256)) p3
      have hset := rowB_set (putB bs off (le i n)) (off + i) (UInt8.ofNat N)
      have hq2 : (wr.setCell ⟨m, off + i, none⟩ (.int .u8 ((N : Int) % 256))).heap[bx]? = _ := (Below.heap_setCell wr ⟨m, off + i, none⟩ _ bx HN.out).trans p1
      have ho1 : Only2 wr (wr.setCell ⟨m, off + i, none⟩ (.int .u8 ((N : Int) % 256))) bx m := Only2.set (.inr rfl) _
      rw [← hx] at hset
      rw [hset] at hq1
      have hc2 := cell_of_row _ bx 0 _ _ _ hq2
      have hf2 := frozen_of_row _ bx 0 _ _ hq2
      obtain ⟨r', hr'⟩ : ∃ r', r - i = r' + 1 := ⟨r - i - 1, by omega⟩
      rw [hr'] at hc hc2
      have Q1 := Lib.hid hq1
      have Q2 := Lib.hid hq2
      have O1 := Lib.hid ho1
      clear hq1 hq2 ho1 hset hx
      have P0 := Lib.hid p0
      have P1 := Lib.hid p1
      clear p0 p1 p2
      by_cases hz : r' = 0
      · subst hz
        go_wp2
        go_roundw
        case measure => simp [intOf]; omega
        case rel =>
          have hrr : r - (i + 1) = 0 := by omega
          refine ⟨i + 1, by omega, by rw [Nat.pow_succ, ← Nat.div_div_eq_div_mul, hN]; simp, by go_num, ⟨?_, ⟨_, (by rw [hrr]; exact heap_setCell_same _ _ _ _ _ _ Q2.out), fun h => by omega⟩, ?_⟩, HO.out.trans (O1.out.trans (Only2.set (.inl rfl) _))⟩
          · have := P0.out
            have h1 := LP.out
            rw [putB_length (by rw [le_length]; omega)]
            omega
          · rw [le_snoc, hN, ← putB_snoc (by rw [le_length]; have := LP.out; omega), le_length]
            exact (Below.heap_setCell _ ⟨bx, 0, none⟩ _ m (Ne.symm HN.out)).trans Q1.out
      · go_wp2
        go_roundw
        case measure => simp [intOf]; omega
        case rel =>
          have hrr : r - (i + 1) = r' := by omega
          refine ⟨i + 1, by omega, by rw [Nat.pow_succ, ← Nat.div_div_eq_div_mul, hN]; simp, by go_num, ⟨?_, ⟨_, (by rw [hrr]; exact heap_setCell_same _ _ _ _ _ _ Q2.out), fun h => by omega⟩, ?_⟩, HO.out.trans (O1.out.trans (Only2.set (.inl rfl) _))⟩
          · have := P0.out
            have h1 := LP.out
            rw [putB_length (by rw [le_length]; omega)]
            omega
          · rw [le_snoc, hN, ← putB_snoc (by rw [le_length]; have := LP.out; omega), le_length]
            exact (Below.heap_setCell _ ⟨bx, 0, none⟩ _ m (Ne.symm HN.out)).trans Q1.out
    · obtain rfl : i = k := by omega
      have hlt' : ¬ (i : Int) < i := by omega
      go_wp2
      go_end0
      exact ⟨⟨_, rfl⟩, ⟨p0, ⟨o, p1, p2⟩, p3⟩, HO.out⟩
end Go.Proofs.Ytdjoflhcagfmiaa
