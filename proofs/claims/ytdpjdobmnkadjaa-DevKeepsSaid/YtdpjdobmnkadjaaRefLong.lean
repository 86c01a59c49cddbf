/-
  The document's own functions: long (a number as a text of nine bytes).
  Conditions: none.
-/
import Derived.Test.YtdpjdobmnkadjaaDevClone
import Derived.Laws.Concat
import Derived.Laws.BytesString
set_option linter.unusedVariables false
set_option linter.unusedSimpArgs false
namespace Go.Proofs.Ytdpjdobmnkadjaa
open Go.RowKit

/-- A number's bytes, the least first, behind a dot. -/
def longL (u i : Nat) : Bs := 46 :: (List.range i).map (fun j => UInt8.ofNat (u / 256 ^ j))
theorem longL_length (u i : Nat) : (longL u i).length = i + 1 := by simp [longL]
theorem longL_snoc (u i : Nat) : longL u (i + 1) = longL u i ++ [UInt8.ofNat (u / 256 ^ i)] := by simp [longL, List.range_succ]
def longB (u i : Nat) : ByteArray := ⟨(longL u i).toArray⟩
def u64N (n : Int) : Nat := (n % 18446744073709551616).toNat

set_option maxHeartbeats 1000000 in
theorem long_any (n : Int) (hn : -9223372036854775808 ≤ n ∧ n ≤ 9223372036854775807) (w : World) : Calls Try.prog 59 #[.int .i64 n] w fun e w' => e = .returned (.string (longB (u64N n) 8)) ∧ Below w.heap.size w w' := by
  have hu : Hid ((u64N n : Int) = n % 18446744073709551616 ∧ u64N n < 18446744073709551616) := Lib.hid (by unfold u64N; omega)
  obtain ⟨u, hu'⟩ : ∃ u, u = u64N n := ⟨_, rfl⟩
  rw [← hu'] at hu ⊢
  have hcu : ∀ w : World, (convert 3 86 (.int .i64 n)).run Try.prog w = .ok (.int .u64 (u : Int)) w := by
    intro w
    rw [hu.out.1]
    go_simp
    simp [IntKind.wrap, IntKind.bits, IntKind.signed]
  clear hu'
  go_enter Try.func59, Try.ntmps59
  go_wp2_with fail
  go_loopw [3, 4, 5] (fun s3 s4 s5 wr => ∃ i : Nat, i ≤ 8 ∧ s5 = .int .i64 i ∧ s4 = .int .u64 ((u / 256 ^ i : Nat) : Int) ∧ s3 = .string (longB u i) ∧ Below w.heap.size w wr) (fun _ _ s5 _ => 8 - (intOf s5).toNat)
  case atStart => exact ⟨0, by omega, rfl, by simp, rfl, Below.refl _ _⟩
  case round =>
    obtain ⟨i, hi, rfl, rfl, rfl, hb⟩ := hrel
    have HB := Lib.hid hb
    clear hb
    by_cases hlt : i < 8
    · have hlt' : (i : Int) < 8 := by omega
      have hbnd : u / 256 ^ i < 18446744073709551616 := Nat.lt_of_le_of_lt (Nat.div_le_self _ _) hu.out.2
      obtain ⟨y, hy⟩ : ∃ y, y = u / 256 ^ i := ⟨_, rfl⟩
      have hnext : u / 256 ^ (i + 1) = y / 256 := by rw [hy, Nat.pow_succ, Nat.div_div_eq_div_mul]
      have HNX := Lib.hid hnext
      have hsn : longL u (i + 1) = longL u i ++ [UInt8.ofNat y] := by rw [hy]; exact longL_snoc u i
      have HSN := Lib.hid hsn
      have HY := Lib.hid hy
      rw [← hy] at hbnd ⊢
      have hc8 : ∀ w : World, (convert 86 5 (.int .u64 (y : Int))).run Try.prog w = .ok (.int .u8 ((UInt8.ofNat y).toNat : Int)) w := by
        intro w
        have : ((UInt8.ofNat y).toNat : Int) = (y : Int) % 256 := by simp
        rw [this]
        go_simp
        simp [IntKind.wrap, IntKind.bits, IntKind.signed]
      have hst : ∀ w : World, (convert 30 9 (.slice (some ⟨w.heap.size, 0, none⟩) 1 1)).run Try.prog (w.alloc (.cells #[.int .u8 ((y : Int) % 256)] 5)) = .ok (.string ⟨[UInt8.ofNat y].toArray⟩) (w.alloc (.cells #[.int .u8 ((y : Int) % 256)] 5)) := fun w => by
        have h := run_txt_string (txt_new w 5 [UInt8.ofNat y] (by simp [maxLen]))
        have e : ([UInt8.ofNat y].map Go.Proofs.Ytdpjdobmnkadjaa.u8).toArray = #[.int .u8 ((y : Int) % 256)] := by simp [Go.Proofs.Ytdpjdobmnkadjaa.u8]
        rw [e] at h
        exact h
      have hadd : ∀ w : World, (Op.stringOp .add (longB u i) ⟨[UInt8.ofNat y].toArray⟩).run Try.prog w = .ok (.string (longB u (i + 1))) w := fun w => by
        rw [longB, run_string_add_lists w _ _ (by rw [longL_length]; omega) (by simp), ← hsn]; rfl
      have hshr : ∀ w : World, (binOp .shr 86 (.int .u64 (y : Int)) (.int .u64 8)).run Try.prog w = .ok (.int .u64 ((y / 256 : Nat) : Int)) w := by
        intro w
        go_simp
      clear hsn hy hnext
      go_wp2_with fail
      go_roundw
      case measure => simp [intOf]; omega
      case rel => exact ⟨i + 1, by omega, by go_num, by rw [HNX.out]; exact congrArg (Value.int .u64) (by omega), rfl, HB.out.alloc HB.out.size _⟩
    · obtain rfl : i = 8 := by omega
      have hlt' : ¬ ((8 : Nat) : Int) < 8 := by omega
      go_wp2_with fail
      go_ret
      exact ⟨rfl, HB.out⟩
end Go.Proofs.Ytdpjdobmnkadjaa
