/-
  The statement CrcBurst's text returns true: bits that are turned within 32 give another check sum.
  Conditions: none.
-/
import Derived.Test.YtbpmbdndjfdbpaaCrcOver
import Derived.Test.YtbpmbdndjfdbpaaCrcParts
import Derived.Maps.AppendAt
import Derived.BigRegion
import Derived.Laws.ShiftsVar
import Derived.Laws.ShiftsVarLaws
import Derived.Deep.QuietTactic
import Derived.BigQuiet
import Derived.Deep.RegionHeld3
set_option linter.unusedVariables false
set_option linter.unusedSimpArgs false
namespace Go.Proofs.Ytbpmbdndjfdbpaa
open Go.RowKit

theorem below_drew {B : Nat} {W W' : World} (h : Below B W W') : Below B W W'.drew := ⟨h.os, h.tape, h.output, h.size, h.block⟩

set_option maxHeartbeats 400000 in
theorem burst_off (v0 : Value) (xs0 : List UInt8) (a t : Int) (w : World) (h0 : Txt w w.heap.size v0 xs0) (h : xs0.length = 0 ∨ 5000 < xs0.length) :
    Calls Try.prog 5 #[v0, .int .u16 a, .int .u32 t] w fun e w' => e = .returned (.bool true) ∧ Below w.heap.size w w' := by
  obtain ⟨A0, cap0, rfl, -, -, -, -⟩ := h0
  by_cases g0 : xs0.length = 0
  · rw [g0]
    go_enter Try.func5, Try.ntmps5
    go_wp2_with fail
    refine (alive_true _).mono ?_
    rintro e w1 ⟨rfl, b⟩
    have B1 := Lib.hid b
    clear b
    go_wp2
    go_ret
    exact ⟨rfl, B1.out⟩
  · have g0' : ((xs0.length : Int) == 0) = false := by simpa using g0
    have g0'' : decide ((xs0.length : Int) = 0) = false := decide_eq_false (by omega)
    have g1' : decide ((5000 : Int) < xs0.length) = true := decide_eq_true (by omega)
    go_enter Try.func5, Try.ntmps5
    go_wp2_with fail
    refine (alive_true _).mono ?_
    rintro e w1 ⟨rfl, b⟩
    have B1 := Lib.hid b
    clear b
    go_wp2
    go_ret
    exact ⟨rfl, B1.out⟩

theorem pow_small {r : Nat} (h : r < 8) : (2 : Int) ^ r % 256 = ((2 ^ r : Nat) : Int) := by
  have : ∀ r : Fin 8, (2 : Int) ^ r.val % 256 = ((2 ^ r.val : Nat) : Int) := by decide
  exact this ⟨r, h⟩
theorem pow_small_lt {r : Nat} (h : r < 8) : 2 ^ r < 256 := Nat.lt_of_le_of_lt (Nat.pow_le_pow_right (by omega) (show r ≤ 7 by omega)) (by omega)

set_option maxHeartbeats 2000000 in
theorem burst_all (v0 : Value) (xs0 : List UInt8) (a t : Nat) (w : World) (h0 : Txt w w.heap.size v0 xs0) (hp : 0 < xs0.length) (hl : xs0.length ≤ 5000) (ha : a < 65536) (ht : t < 4294967296) :
    Calls Try.prog 5 #[v0, .int .u16 a, .int .u32 t] w fun e w' => e = .returned (.bool true) ∧ Below w.heap.size w w' := by
  have H0 := Lib.hid h0
  have g0' : ((xs0.length : Int) == 0) = false := by simpa using (by omega : ¬ xs0.length = 0)
  have g0'' : decide ((xs0.length : Int) = 0) = false := decide_eq_false (by omega)
  have g1' : decide ((5000 : Int) < xs0.length) = false := decide_eq_false (by omega)
  have g2' : ¬ 8 * (xs0.length : Int) = 0 := by omega
  obtain ⟨A0, cap0, rfl, -, -, -, -⟩ := h0
  obtain ⟨i0, hi, hz0, hz1, hz2⟩ := info_parts infoByte
  go_enter Try.func5, Try.ntmps5
  go_wp2_with fail
  refine (alive_true _).mono ?_
  rintro e w1 ⟨rfl, b⟩
  have B1 := Lib.hid b
  clear b
  have bnil : ∀ (j : Nat), (Value.slice none 0 0).ownBlock = some j → w1.heap.size ≤ j := fun j e => by cases e
  go_wp2_with (at_builtin; refine wpList_append_txt (o := ⟨some 34, _, _, _, _, _⟩) rfl (.tmp 32) (.tmp 33) _ rfl Try.underlying25 hi hz0 hz1 hz2 rfl (World.ownsRow_nil _ w1.heap.size 5 1) rfl (H0.out.below B1.out) (by omega) (Nat.le_refl _) ?_; intro v4 w4 hown4 hgrow4; have b4 := (Below.refl w1.heap.size w1).grown hgrow4 (Nat.le_refl _) bnil; have B4 := Lib.hid b4; have bs4 := b4.size; have O4 := Lib.hid hown4; clear b4 hown4 hgrow4)
  have O5 : w4.ownsRow w1.heap.size 5 1 v4 xs0.length (xs0.map u8) := by simpa using O4.out
  rcases id O5.2 with ⟨-, h0⟩ | ⟨g, cap, cur, rfl, hg, -, hcap, hmax, -, -⟩
  · omega
  have O6 := Lib.hid O5
  have C4 := Lib.hid (B1.out.trans (B4.out.mono B1.out.size))
  have hgw : w.heap.size ≤ g := Nat.le_trans B1.out.size hg
  unfold maxLen at hmax
  clear O5 O4
  have hf : (a : Int) % (8 * (xs0.length : Int)) = ((a % (8 * xs0.length) : Nat) : Int) := by simp
  rw [hf]
  have hfl : a % (8 * xs0.length) < 8 * xs0.length := Nat.mod_lt _ (by omega)
  generalize a % (8 * xs0.length) = f at hfl ⊢
  clear hf
  have h8 : wrap64 (8 * (xs0.length : Int)) = 8 * (xs0.length : Int) := by unfold wrap64; omega
  generalize hn : xs0.length = n at *
  have HN := Lib.hid hn
  clear hn
  go_loopw [10] (fun i wr => ∃ (j T : Nat) (ys : List UInt8), j ≤ 32 ∧ T < 2 ^ j ∧ i = .int .i64 j ∧ ys.length = n ∧ num ys = num xs0 ^^^ 2 ^ f * T ∧ wr.ownsRow w1.heap.size 5 1 (.slice (some ⟨g, 0, none⟩) n cap) n (ys.map u8) ∧ Below w.heap.size w wr)
        (fun i _ => 32 - (intOf i).toNat)
  case atStart => exact ⟨0, 0, xs0, by omega, by omega, rfl, HN.out, by simp, O6.out, C4.out⟩
  case round =>
    obtain ⟨j, T, ys, hj, hT, rfl, hyl, hnum, ho, hb⟩ := hrel
    have HO := Lib.hid ho
    have HBw := Lib.hid hb
    have HY := Lib.hid hyl
    have HNUM := Lib.hid hnum
    have HTT := Lib.hid hT
    clear ho hb hyl hnum hT
    by_cases hlt : j < 32
    · have hlt' : (j : Int) < 32 := by omega
      obtain ⟨k, hk⟩ : ∃ k : Nat, (f : Int) + (j : Int) = (k : Int) := ⟨f + j, by omega⟩
      have HK := Lib.hid hk
      by_cases hkn : k < 8 * n
      · have hkn' : (k : Int) < 8 * (n : Int) := by omega
        have hkn'' : decide ((k : Int) < 8 * (n : Int)) = true := decide_eq_true hkn'
        cases hbit : (bits BinOp.and IntKind.u32 ((t : Int) / 2 ^ j) 1 == 1) with
        | true =>
          have hkd : k / 8 < n := by omega
          have hkd' : k / 8 < ys.length := by have := HY.out; omega
          have hkm : k % 8 < 8 := by omega
          have hx0 := u8_lt ys[k / 8]
          obtain ⟨y, hy⟩ : ∃ y : UInt8, y.toNat = ys[k / 8].toNat ^^^ 2 ^ (k % 8) :=
            ⟨UInt8.ofNat (ys[k / 8].toNat ^^^ 2 ^ (k % 8)), by
              rw [UInt8.toNat_ofNat']
              exact Nat.mod_eq_of_lt (Nat.xor_lt_two_pow (n := 8) hx0 (pow_small_lt hkm))⟩
          have hst : num (ys.set (k / 8) y) = num xs0 ^^^ 2 ^ f * (T ^^^ 2 ^ j) := by
            rw [num_turn hkd' y hy, HNUM.out, shift_xor, Nat.xor_assoc, ← Nat.pow_add]
            congr 3
            omega
          have hlen : (ys.set (k / 8) y).length = n := by rw [List.length_set]; exact HY.out
          have hTl : T ^^^ 2 ^ j < 2 ^ (j + 1) := Nat.xor_lt_two_pow (Nat.lt_trans HTT.out (Nat.pow_lt_pow_right (by omega) (by omega))) (Nat.pow_lt_pow_right (by omega) (by omega))
          have hval : bits BinOp.xor IntKind.u8 (ys[k / 8].toNat : Int) ((2 : Int) ^ (k % 8) % 256) = (y.toNat : Int) := by
            rw [pow_small hkm, hy]
            exact u8_xor_nat _ _ hx0 (pow_small_lt hkm)
          have hst2 : ∀ wq, wq = wr.setCell ⟨g, k / 8, none⟩ (.int .u8 (bits BinOp.xor IntKind.u8 (ys[k / 8].toNat : Int) ((2 : Int) ^ (k % 8) % 256))) → wq.ownsRow w1.heap.size 5 1 (.slice (some ⟨g, 0, none⟩) n cap) n ((ys.set (k / 8) y).map u8) := by
            intro wq e
            have := (HO.out.stored (k / 8) (u8 y)).1
            rw [← List.map_set] at this
            rw [e, hval]
            exact this
          have hc := HO.out.cellAt (k / 8) (by omega)
          rw [List.getElem?_map, List.getElem?_eq_getElem hkd', Option.map_some, u8_eq] at hc
          have hfz := HO.out.frozenAt (k / 8)
          have hkq : (k : Int) / 8 = ((k / 8 : Nat) : Int) := by omega
          have hkr : (k : Int) % 8 = ((k % 8 : Nat) : Int) := by omega
          have HST := Lib.hid hst
          have HLEN := Lib.hid hlen
          have HTL := Lib.hid hTl
          have HS2 := Lib.hid hst2
          generalize ys[k / 8] = x at *
          clear hst hlen hTl hst2 hval hy hkd'
          generalize k / 8 = q at *
          generalize k % 8 = r at *
          have hq0 : (0 : Int) ≤ q := by omega
          have hq1 : (q : Int) < n := by omega
          have hr0 : (0 : Int) ≤ r := by omega
          have hr1 : (r : Int) < 8 := by omega
          go_wp2
          go_region
          go_wp2
          go_roundw
          case rel => exact ⟨j + 1, T ^^^ 2 ^ j, ys.set q y, by omega, HTL.out, by go_num, HLEN.out, HST.out, by have := HS2.out _ rfl; exact this, below_drew (HBw.out.setCell (p := ⟨g, q, none⟩) hgw _)⟩
          case measure => simp [intOf]; omega
        | false =>
          go_wp2
          go_roundw
          case rel => exact ⟨j + 1, T, ys, by omega, Nat.lt_of_lt_of_le HTT.out (Nat.pow_le_pow_right (by omega) (by omega)), by go_num, HY.out, HNUM.out, HO.out, HBw.out⟩
          case measure => simp [intOf]; omega
      · have hkn' : ¬ (k : Int) < 8 * (n : Int) := by omega
        have hkn'' : decide ((k : Int) < 8 * (n : Int)) = false := decide_eq_false hkn'
        go_wp2
        go_roundw
        case rel => exact ⟨j + 1, T, ys, by omega, Nat.lt_of_lt_of_le HTT.out (Nat.pow_le_pow_right (by omega) (by omega)), by go_num, HY.out, HNUM.out, HO.out, HBw.out⟩
        case measure => simp [intOf]; omega
    · obtain rfl : j = 32 := by omega
      have T0 := Lib.hid ((H0.out.below HBw.out).more HBw.out.size)
      have TY : Txt wr wr.heap.size (.slice (some ⟨g, 0, none⟩) n cap) ys := by
        have := HO.out
        refine Txt.own (base := w1.heap.size) (e := 5) ?_ ?_
        · rw [HY.out]; unfold maxLen; omega
        · rw [HY.out]; exact this
      have T1 := Lib.hid TY
      clear TY
      have hres := over_burst (s := 0) (xs := xs0) (ys := ys) (by rw [HY.out, HN.out]) HNUM.out HTT.out (by rw [HN.out]; omega)
      have HRES := Lib.hid hres
      have hpx := over_lt (s := 0) (by omega) xs0
      have hpy := over_lt (s := 0) (by omega) ys
      clear hres
      generalize hvx : over 0 xs0 = p at *
      generalize hvy : over 0 ys = q at *
      have HVX := Lib.hid hvx
      have HVY := Lib.hid hvy
      clear hvx hvy
      have hd : (((p : Int) == q) == (xs0 == ys)) = true := by
        by_cases he : xs0 = ys
        · rw [HRES.out.2 he, he]; simp
        · have hpq : ¬ (p : Int) = (q : Int) := fun e => he (HRES.out.1 (by omega))
          rw [beq_false_of_ne he, beq_false_of_ne hpq]; rfl
      go_wp2
      go_region_held3 (fun w' => Below wr.heap.size wr w' ∧ (convert 25 9 (.slice A0 n cap0)).run Try.prog w' = .ok (.string ⟨xs0.toArray⟩) w' ∧ (convert 25 9 (.slice (some ⟨g, 0, none⟩) n cap)).run Try.prog w' = .ok (.string ⟨ys.toArray⟩) w')
        (first
          | exact ⟨below_drew (Below.refl _ _), run_txt_string (T0.out.below (below_drew (Below.refl _ _))), run_txt_string (T1.out.below (below_drew (Below.refl _ _)))⟩
          | exact ⟨B5.out, run_txt_string (T0.out.below B5.out), run_txt_string (T1.out.below B5.out)⟩
          | exact ⟨B6.out, run_txt_string (T0.out.below B6.out), run_txt_string (T1.out.below B6.out)⟩)
        (first
          | (go_at_call 9; refine (of_any _ xs0 _ ((T0.out.below (below_drew (Below.refl _ _))).more (Nat.le_refl _))).mono ?_; rintro e w5 ⟨rfl, b⟩; rw [HVX.out]; have B5 : Hid (Below wr.heap.size wr w5) := Lib.hid (Below.trans (below_drew (Below.refl _ wr)) (b.mono (Nat.le_refl _))); clear b)
          | (go_at_call 9; refine (of_any _ ys _ ((T1.out.below B5.out).more B5.out.size)).mono ?_; rintro e w6 ⟨rfl, b⟩; rw [HVY.out]; have B6 := Lib.hid (B5.out.trans (b.mono B5.out.size)); clear b))
      go_wp2
      go_ret
      exact ⟨rfl, HBw.out.trans (B6.out.mono HBw.out.size)⟩
theorem walk_burst (v0 : Value) (xs0 : List UInt8) (a t : Int) (w : World) (h0 : Txt w w.heap.size v0 xs0) (ha : 0 ≤ a ∧ a < 65536) (ht : 0 ≤ t ∧ t < 4294967296) :
    Calls Try.prog 5 #[v0, .int .u16 a, .int .u32 t] w fun e w' => e = .returned (.bool true) ∧ Below w.heap.size w w' := by
  by_cases h : xs0.length = 0 ∨ 5000 < xs0.length
  · exact burst_off v0 xs0 a t w h0 h
  · obtain ⟨a', rfl⟩ : ∃ n : Nat, a = n := ⟨a.toNat, by omega⟩
    obtain ⟨t', rfl⟩ : ∃ n : Nat, t = n := ⟨t.toNat, by omega⟩
    exact burst_all v0 xs0 a' t' w h0 (by omega) (by omega) (by omega) (by omega)
end Go.Proofs.Ytbpmbdndjfdbpaa
