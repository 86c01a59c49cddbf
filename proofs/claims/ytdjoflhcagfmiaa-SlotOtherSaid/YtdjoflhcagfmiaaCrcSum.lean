/-
  A check sum of bytes, by the table of each byte.
  Conditions: the bytes can be read as a slice.
-/
import Derived.Test.YtdjoflhcagfmiaaCrcEach
import Derived.Lib.SlBytesConst
set_option linter.unusedVariables false
set_option linter.unusedSimpArgs false
set_option maxRecDepth 100000
namespace Go.Proofs.Ytdjoflhcagfmiaa
open Go.RowKit

theorem u8_eq (x : UInt8) : u8 x = .int .u8 (x.toNat : Int) := rfl
theorem crcR_take {w : Nat} {xs : List UInt8} {j : Nat} (h : j < xs.length) : crcR w (xs.take (j + 1)) = stps 8 (crcR w (xs.take j) ^^^ xs[j].toNat) := by
  rw [List.take_add_one, List.getElem?_eq_getElem h, crcR_append]
  rfl

set_option maxHeartbeats 1000000 in
theorem over_any (s : Nat) (hs : s < 4294967296) (v : Value) (xs : List UInt8) (w : World) (hx : Txt w w.heap.size v xs) :
    Calls Try.prog 97 #[.int .u32 s, v] w fun e w' => e = .returned (.int .u32 (over s xs : Nat)) ∧ Below w.heap.size w w' := by
  obtain ⟨A, cap, rfl, h1, h2, hn, h3⟩ := hx
  unfold maxLen at h2
  have H3 := Lib.hid h3
  clear h3 hn
  have hz := zero_tab.1
  go_enter Try.func97, Try.ntmps97
  go_wp2_with fail
  refine (steps_any _).mono ?_
  rintro e w1 ⟨rfl, rfl⟩
  have hc : (w.alloc (.cells #[.int .i64 8] 3)).cell? ⟨w.heap.size, 0, none⟩ = some (.int .i64 8) := by simp
  go_wp2_with fail
  refine (each_any _ _ hc).mono ?_
  rintro e w2 ⟨rfl, rfl⟩
  have hb3 : Below w.heap.size w (((w.alloc (.cells #[.int .i64 8] 3)).alloc (.cells (tabTo 256) 143)).alloc (.cells (tabTo 256) 143)) :=
    (((below_new w _).trans ((below_new _ _).mono (by simp))).trans ((below_new _ _).mono (by simp; omega)))
  have hs3 : (((w.alloc (.cells #[.int .i64 8] 3)).alloc (.cells (tabTo 256) 143)).alloc (.cells (tabTo 256) 143)).heap.size = w.heap.size + 1 + 1 + 1 := by simp
  generalize ((w.alloc (.cells #[.int .i64 8] 3)).alloc (.cells (tabTo 256) 143)).alloc (.cells (tabTo 256) 143) = w3 at hb3 hs3 ⊢
  have hh : (w3.alloc (.cells (Array.replicate 256 (.int .u32 0)) 143)).heap[w3.heap.size]? = some (.cells (Array.replicate 256 (.int .u32 0)) 143 (0, 0)) := heap_alloc_self _ _
  obtain ⟨w4, hw4⟩ : ∃ w4, w4 = (w3.alloc (.cells (Array.replicate 256 (.int .u32 0)) 143)).setRow w3.heap.size (tabTo 256) := ⟨_, rfl⟩
  have hw4' := hw4
  rw [World.setRow_alloc_new] at hw4'
  have hb4 : Below w.heap.size w w4 := by rw [hw4']; exact hb3.trans ((below_new _ _).mono (by omega))
  have htab : ∀ j, j < 256 → w4.cell? ⟨w3.heap.size, j, none⟩ = some (.int .u32 (stps 8 j : Nat)) := by
    intro j hj
    rw [hw4', World.cell?_alloc_new]
    exact tabTo_at hj
  have hcells : 0 < xs.length → ∃ b off, A = some ⟨b, off, none⟩ ∧ ∀ j (h : j < xs.length), w4.cell? ⟨b, off + j, none⟩ = some (u8 xs[j]) := by
    intro hp
    obtain ⟨b, off, e, hlt, hc⟩ := H3.out hp
    exact ⟨b, off, e, fun j hj => (hb4.cell (p := ⟨b, off + j, none⟩) hlt).trans (hc j hj)⟩
  have HB := Lib.hid hb4
  have HT := Lib.hid htab
  have HC := Lib.hid hcells
  have HW := Lib.hid hw4
  have HS3 := Lib.hid hs3
  clear hb4 htab hcells hw4 hw4' H3 hb3 hs3
  go_wp2_with (refine wpList_store_row rfl 143 _ _ rfl _ rfl rfl hh (by rw [tabTo_size]; exact zero_tab.2) (by rw [tabTo_size]; simp) (tabTo_one _) ?_; rw [← HW.out])
  clear hh hz
  have hstart : bits .xor .u32 IntKind.u32.max (s : Int) = ((4294967295 ^^^ s : Nat) : Int) := u32_xor_nat 4294967295 s (by omega) hs
  have hF : 4294967295 ^^^ s < 4294967296 := xor_word (by omega) hs
  go_loop [6, 15] (fun c i => ∃ j : Nat, c = .int .u32 (crcR (4294967295 ^^^ s) (xs.take j) : Nat) ∧ i = .int .i64 j ∧ j ≤ xs.length) (fun _ i => xs.length - (intOf i).toNat)
  case atStart => exact ⟨0, by rw [hstart]; rfl, rfl, by omega⟩
  case round =>
    obtain ⟨j, rfl, rfl, hj⟩ := hrel
    clear hstart
    by_cases hlt : j < xs.length
    · obtain ⟨b, off, rfl, hc⟩ := HC.out (by omega)
      have hcj := hc j hlt
      have hw := crcR_lt hF (xs.take j)
      have hT := crcR_take (w := 4294967295 ^^^ s) hlt
      generalize hx : xs[j] = x at hcj hT
      generalize crcR (4294967295 ^^^ s) (xs.take j) = W at hw hT ⊢
      rw [stps_table hw (u8_lt x)] at hT
      rw [u8_eq] at hcj
      clear hc hx
      have hxl := u8_lt x
      have h8 : bits .xor .u8 ((W : Int) % 256) (x.toNat : Int) = ((W % 256 ^^^ x.toNat : Nat) : Int) := by
        have := u8_xor_nat (W % 256) x.toNat (by omega) hxl
        rwa [Int.natCast_emod] at this
      have hk : W % 256 ^^^ x.toNat < 256 := Nat.xor_lt_two_pow (n := 8) (by omega) hxl
      generalize W % 256 ^^^ x.toNat = k at h8 hk hT
      have hkc := HT.out k hk
      have hsl := stps_lt (n := 8) (w := k) (by omega)
      have h32 : bits .xor .u32 ((W : Int) / 256) (stps 8 k : Nat) = (crcR (4294967295 ^^^ s) (xs.take (j + 1)) : Nat) := by
        have := u32_xor_nat (W / 256) (stps 8 k) (by omega) hsl
        rw [hT, ← this, Int.natCast_ediv]
        rfl
      have hlt' : (j : Int) < xs.length := by omega
      have hk0 : (0 : Int) ≤ k := by omega
      have hk1 : (k : Int) < 256 := by omega
      go_wp2
      go_round
      case rel => exact ⟨j + 1, by rw [hT], by go_num, by omega⟩
      case measure => simp [intOf]; omega
    · obtain rfl : j = xs.length := by omega
      have hlt' : ¬ (xs.length : Int) < xs.length := by omega
      rw [List.take_length]
      have he : bits .xor .u32 IntKind.u32.max (crcR (4294967295 ^^^ s) xs : Nat) = (over s xs : Nat) := by
        rw [over, Nat.xor_comm (crcR _ _)]
        exact u32_xor_nat 4294967295 _ (by omega) (crcR_lt hF xs)
      go_wp2
      go_ret
      exact ⟨rfl, HB.out⟩

theorem csum_any (v : Value) (xs : List UInt8) (w : World) (hx : Txt w w.heap.size v xs) :
    Calls Try.prog 86 #[v] w fun e w' => e = .returned (.int .u32 (over 0 xs : Nat)) ∧ Below w.heap.size w w' := by
  go_enter Try.func86, Try.ntmps86
  go_wp2_with fail
  refine (over_any 0 (by omega) v xs _ hx).mono ?_
  rintro e w1 ⟨rfl, b⟩
  have B := Lib.hid b
  clear b
  go_wp2
  go_ret
  exact ⟨rfl, B.out⟩

end Go.Proofs.Ytdjoflhcagfmiaa
