/-
  The document's own functions of package slot: Slot, Number, Get.
  Conditions: at most eight bytes of a number; at most four are read.
-/
import Derived.Test.YtdjoflhcagfmiaaMSlot
import Derived.Test.YtdjoflhcagfmiaaMRef
set_option linter.unusedVariables false
set_option linter.unusedSimpArgs false
set_option maxRecDepth 100000
namespace Go.Proofs.Ytdjoflhcagfmiaa
open Go.RowKit

theorem rslot_any (g : Nat) (w : World) : Calls Try.prog 22 #[.int .u32 g] w fun e w' => e = .returned (.int .i64 (slotN g : Nat)) ∧ w = w' := by
  have h : (16 * ((g : Int) % 2)) = ((slotN g : Nat) : Int) := by rw [slotN]; omega
  have h2 : (g : Int) % 2 < 2 := by omega
  have h3 : (0 : Int) ≤ (g : Int) % 2 := by omega
  have H := Lib.hid h
  clear h
  go_enter Try.func22, Try.ntmps22
  go_wp2_with fail
  rw [H.out]
  go_ret
  exact ⟨rfl, rfl⟩

theorem le_at : ∀ (k n i : Nat), i < k → (le k n)[i]? = some (UInt8.ofNat (n / 256 ^ i))
  | 0, n, i, h => absurd h (by omega)
  | k + 1, n, 0, h => by rw [le]; simp
  | k + 1, n, i + 1, h => by
    rw [le, List.getElem?_cons_succ, le_at k (n / 256) i (by omega), Nat.div_div_eq_div_mul, Nat.pow_succ, Nat.mul_comm]
theorem leN_drop (xs : Bs) {j : Nat} (hj : j < xs.length) : leN (xs.drop j) = 256 * leN (xs.drop (j + 1)) + xs[j].toNat := by
  rw [List.drop_eq_getElem_cons hj, leN]; omega

theorem own_full {w : World} {base e i : Nat} {v : Value} {R : Bs} (h : w.ownsRow base e 1 v i ((R.take i).map u8)) (hl : R.length = i) : w.ownsRow base e 1 v i (R.map u8) := by
  rw [List.take_of_length_le (Nat.le_of_eq hl)] at h
  exact h

set_option maxHeartbeats 4000000 in
theorem rnumber_any (n k : Nat) (hn : n < 9223372036854775808) (hk : k ≤ 8) (w : World) :
    Calls Try.prog 65 #[.int .i64 (n : Int), .int .i64 (k : Int)] w fun e w' => ∃ y, e = .returned y ∧ w'.ownsRow w.heap.size 5 1 y k ((le k n).map u8) ∧ Below w.heap.size w w' := by
  obtain ⟨i0, hi, hz0, hz1, hz2⟩ := info_parts infoByte
  have I0 := Lib.hid hi
  have I1 := Lib.hid hz0
  have I2 := Lib.hid hz1
  have I3 := Lib.hid hz2
  obtain ⟨R, hR⟩ : ∃ R, R = le k n := ⟨_, rfl⟩
  have HR : Hid (∀ i, i < k → R[i]? = some (UInt8.ofNat (n / 256 ^ i))) := Lib.hid (fun i h => by rw [hR]; exact le_at k n i h)
  have HRL : Hid (R.length = k) := Lib.hid (by rw [hR]; exact le_length k n)
  rw [← hR]
  have HN := Lib.hid hn
  clear hR hn hi hz0 hz1 hz2
  go_enter Try.func65, Try.ntmps65
  go_wp2_with fail
  go_loopw [0, 5, 6] (fun s0 s5 s6 wr => ∃ i m : Nat, i ≤ k ∧ s6 = .int .i64 i ∧ m = n / 256 ^ i ∧ s0 = .int .i64 m ∧ wr.ownsRow w.heap.size 5 1 s5 i ((R.take i).map u8) ∧ Below w.heap.size w wr) (fun _ _ s6 _ => k - (intOf s6).toNat)
  case atStart => exact ⟨0, n, by omega, by go_num, by simp, rfl, World.ownsRow_nil _ _ _ _, Below.refl _ _⟩
  case round =>
    obtain ⟨i, m, hi, rfl, hm, rfl, ho, hb⟩ := hrel
    obtain ⟨A3, c3, rfl⟩ := own_slice_ ho
    have HO := Lib.hid ho
    have HB := Lib.hid hb
    have HM := Lib.hid hm
    have hmn : m < 9223372036854775808 := by rw [hm]; exact Nat.lt_of_le_of_lt (Nat.div_le_self _ _) HN.out
    clear ho hb hm
    by_cases hlt : i < k
    · have hlt' : (i : Int) < k := by omega
      obtain ⟨b, hb, hb1⟩ : ∃ b : UInt8, b = UInt8.ofNat m ∧ R[i]? = some b := ⟨_, rfl, by rw [HM.out]; exact HR.out i hlt⟩
      have hbn : b.toNat = m % 256 := by rw [hb]; simp
      have HRI := Lib.hid hb1
      have hr1 : (m : Int) % 256 = (b.toNat : Int) := by omega
      have hr2 : Int.tmod (m : Int) 256 = (b.toNat : Int) := by rw [Int.tmod_eq_emod_of_nonneg (by omega)]; exact hr1
      have hb256 : (b.toNat : Int) < 256 := by omega
      have hb0 : (0 : Int) ≤ (b.toNat : Int) := by omega
      obtain ⟨m', hm'⟩ : ∃ m', m' = m / 256 := ⟨_, rfl⟩
      have HM' : Hid (m' = n / 256 ^ (i + 1)) := Lib.hid (by rw [hm', HM.out, Nat.div_div_eq_div_mul, Nat.pow_succ])
      have hq1 : (m : Int) / 256 = (m' : Int) := by omega
      have hq2 : Int.tdiv (m : Int) 256 = (m' : Int) := by rw [Int.tdiv_eq_ediv_of_nonneg (by omega)]; exact hq1
      have hml : (m' : Int) < 9223372036854775808 := by omega
      clear hb hb1 hbn hm'
      go_wp2_with ((with_reducible show wpList _ _ _ (⟨some 17, _, _, _, _, _⟩ :: _) _ _); refine wpList_append_any rfl (.tmp 12) (.tmp 16) _ rfl Try.underlying34 I0.out I1.out rfl I2.out (by decide) I3.out (by decide) rfl (HO.out.alloc _) (m := 1) rfl (news := [.int .u8 (b.toNat : Int)]) rfl (fun j u hj => by rw [World.cell?_alloc_new]; simpa using hj) (by simp [Value.oneCell']) (by omega) (by have := HB.out.size; simp; omega) ?_; intro v4 w4 hown4 hgrow4)
      have O4 := Lib.hid (own_snocR hown4 HRI.out)
      have B4 := Lib.hid ((HB.out.alloc HB.out.size (.cells #[.int .u8 (b.toNat : Int)] 5)).grown hgrow4 (Nat.le_trans HB.out.size (by simp)) (own_ge HO.out))
      obtain ⟨A5, c5, h5⟩ := own_slice_ hown4
      subst h5
      clear hown4 hgrow4
      go_roundw
      case measure => simp [intOf]; omega
      case rel => exact ⟨i + 1, m', by omega, by go_num, HM'.out, rfl, O4.out, B4.out⟩
    · obtain rfl : i = k := by omega
      have hlt' : ¬ (i : Int) < i := by omega
      have HF := Lib.hid (own_full HO.out HRL.out)
      go_wp2_with fail
      go_ret
      exact ⟨_, rfl, HF.out, HB.out⟩

set_option maxHeartbeats 4000000 in
theorem rget_any (v : Value) (xs : Bs) (w : World) (h : Txt w w.heap.size v xs) (hl : xs.length ≤ 4) :
    Calls Try.prog 69 #[v] w fun e w' => e = .returned (.int .i64 (leN xs : Nat)) ∧ w' = w := by
  have X := Lib.hid h
  obtain ⟨A, c, rfl, -, -, -, -⟩ := h
  obtain ⟨n, hn⟩ : ∃ n, n = xs.length := ⟨_, rfl⟩
  have HL : Hid (xs.length ≤ 4) := Lib.hid hl
  have HN := Lib.hid hn
  have hn4 : n ≤ 4 := by omega
  rw [← hn]
  clear hl hn
  go_enter Try.func69, Try.ntmps69
  go_wp2_with fail
  go_loopw [3, 4] (fun s3 s4 wr => ∃ i m : Nat, i ≤ n ∧ s4 = .int .i64 ((i : Int) - 1) ∧ m = leN (xs.drop i) ∧ s3 = .int .i64 m ∧ wr = w) (fun _ s4 _ => (intOf s4 + 1).toNat)
  case atStart => exact ⟨n, 0, Nat.le_refl _, by go_num, by rw [HN.out, List.drop_length]; rfl, rfl, rfl⟩
  case round =>
    obtain ⟨i, m, hi, rfl, hm, rfl, rfl⟩ := hrel
    have HM := Lib.hid hm
    clear hm
    cases i with
    | zero =>
      obtain rfl : m = leN xs := HM.out.trans (by simp)
      clear HM
      go_wp2_with fail
      go_ret
      exact ⟨rfl, rfl⟩
    | succ j =>
      have hji : ((j + 1 : Nat) : Int) - 1 = (j : Int) := by omega
      rw [hji]
      have hjx : j < xs.length := by have := HN.out; omega
      have hjn : (j : Int) < n := by omega
      have hj0 : (0 : Int) ≤ j := by omega
      obtain ⟨b, o, c', e1, hb, hcell⟩ := txt_byte_ X.out rfl hjx
      injection e1 with e2 e3 e4
      subst e2
      have hd := leN_drop xs hjx
      rw [← HM.out] at hd
      have hx := UInt8.toNat_lt xs[j]
      generalize hxx : xs[j] = x at hcell hd hx
      have hlt : leN (xs.drop j) < 4294967296 := by
        have h1 := leN_lt (xs.drop j)
        have h2 : (xs.drop j).length ≤ 4 := by rw [List.length_drop]; have := HL.out; omega
        exact Nat.lt_of_lt_of_le h1 (Nat.pow_le_pow_right (n := 256) (by omega) h2)
      have hmm : m < 16777216 := by omega
      obtain ⟨m', hm'⟩ : ∃ m', m' = leN (xs.drop j) := ⟨_, rfl⟩
      have hs : 256 * (m : Int) + x.toNat = m' := by omega
      have HM' := Lib.hid hm'
      have hml : (m' : Int) < 4294967296 := by omega
      clear hd hlt hm' hxx hb e3 e4 hji
      go_wp2_with fail
      go_roundw
      case measure => simp [intOf]
      case rel => exact ⟨j, m', by omega, by go_num, HM'.out, by go_num, trivial⟩
end Go.Proofs.Ytdjoflhcagfmiaa
