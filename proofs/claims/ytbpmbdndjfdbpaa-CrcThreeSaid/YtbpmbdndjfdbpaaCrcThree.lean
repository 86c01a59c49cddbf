/-
  The statement CrcThree's text returns true: the check sums of three texts of one length, by exclusive or.
  Conditions: none.
-/
import Derived.Test.YtbpmbdndjfdbpaaCrcBurst
import Derived.Laws.MakeOwn
set_option linter.unusedVariables false
set_option linter.unusedSimpArgs false
namespace Go.Proofs.Ytbpmbdndjfdbpaa
open Go.RowKit

set_option maxHeartbeats 400000 in
theorem three_off (v0 v1 v2 : Value) (xs0 xs1 xs2 : List UInt8) (w : World) (h0 : Txt w w.heap.size v0 xs0) (h1 : Txt w w.heap.size v1 xs1) (h2 : Txt w w.heap.size v2 xs2) (h : 5000 < xs0.length ∨ xs1.length ≠ xs0.length ∨ xs2.length ≠ xs0.length) :
    Calls Try.prog 7 #[v0, v1, v2] w fun e w' => e = .returned (.bool true) ∧ Below w.heap.size w w' := by
  obtain ⟨A0, cap0, rfl, -, -, -, -⟩ := h0
  obtain ⟨A1, cap1, rfl, -, -, -, -⟩ := h1
  obtain ⟨A2, cap2, rfl, -, -, -, -⟩ := h2
  by_cases g0 : 5000 < xs0.length
  · have g0' : decide ((5000 : Int) < xs0.length) = true := decide_eq_true (by omega)
    go_enter Try.func7, Try.ntmps7
    go_wp2_with fail
    refine (alive_true _).mono ?_
    rintro e w1 ⟨rfl, b⟩
    have B1 := Lib.hid b
    clear b
    go_wp2
    go_ret
    exact ⟨rfl, B1.out⟩
  · have g0' : decide ((5000 : Int) < xs0.length) = false := decide_eq_false (by omega)
    by_cases g1 : xs1.length ≠ xs0.length
    · have g1' : ((xs1.length : Int) != (xs0.length : Int)) = true := by simpa using (by omega : ¬ (xs1.length : Int) = xs0.length)
      go_enter Try.func7, Try.ntmps7
      go_wp2_with fail
      refine (alive_true _).mono ?_
      rintro e w1 ⟨rfl, b⟩
      have B1 := Lib.hid b
      clear b
      go_wp2
      go_ret
      exact ⟨rfl, B1.out⟩
    · have g1' : xs1.length = xs0.length := by omega
      have g2' : ((xs2.length : Int) != (xs0.length : Int)) = true := by simpa using (by omega : ¬ (xs2.length : Int) = xs0.length)
      rw [g1']
      generalize xs1.length = n1 at *
      clear g1
      go_enter Try.func7, Try.ntmps7
      go_wp2_with fail
      refine (alive_true _).mono ?_
      rintro e w1 ⟨rfl, b⟩
      have B1 := Lib.hid b
      clear b g1'
      go_wp2
      go_ret
      exact ⟨rfl, B1.out⟩

theorem xor3_len {ps qs rs : List UInt8} {n : Nat} (ha : ps.length = n) (hb : qs.length = n) (hc : rs.length = n) : (xor2 (xor2 ps qs) rs).length = n := by
  unfold xor2; rw [List.length_zipWith, List.length_zipWith, ha, hb, hc, Nat.min_self, Nat.min_self]
theorem xor3_at {ps qs rs : List UInt8} {j : Nat} {a b c : UInt8} (ha : ps[j]? = some a) (hb : qs[j]? = some b) (hc : rs[j]? = some c) : (xor2 (xor2 ps qs) rs)[j]? = some (a ^^^ b ^^^ c) := by
  unfold xor2
  rw [List.getElem?_zipWith, List.getElem?_zipWith, ha, hb, hc]
theorem xor3_val (a b c : UInt8) : bits BinOp.xor IntKind.u8 (bits BinOp.xor IntKind.u8 (a.toNat : Int) (b.toNat : Int)) (c.toNat : Int) = ((a ^^^ b ^^^ c).toNat : Int) := by
  rw [u8_xor_nat _ _ (u8_lt a) (u8_lt b), u8_xor_nat _ _ (Nat.xor_lt_two_pow (n := 8) (u8_lt a) (u8_lt b)) (u8_lt c), UInt8.toNat_xor, UInt8.toNat_xor]

theorem made_zero (n : Nat) : (madeCells (Value.int .u8 0).cells (n * 1)).toList = (List.replicate n (0 : UInt8)).map u8 := by
  apply List.ext_getElem?
  intro i
  by_cases h : i < n <;> simp [madeCells, Value.cells, u8, h, Nat.mod_one, List.getElem?_replicate]

set_option maxHeartbeats 2000000 in
theorem three_all (n : Nat) (v0 v1 v2 : Value) (xs0 xs1 xs2 : List UInt8) (w : World) (h0 : Txt w w.heap.size v0 xs0) (h1 : Txt w w.heap.size v1 xs1) (h2 : Txt w w.heap.size v2 xs2) (hn : n ≤ 5000) (l0 : xs0.length = n) (l1 : xs1.length = n) (l2 : xs2.length = n) :
    Calls Try.prog 7 #[v0, v1, v2] w fun e w' => e = .returned (.bool true) ∧ Below w.heap.size w w' := by
  have H0 := Lib.hid h0
  have H1 := Lib.hid h1
  have H2 := Lib.hid h2
  have g0' : decide ((5000 : Int) < n) = false := decide_eq_false (by omega)
  have g1' : ((n : Int) != (n : Int)) = false := by simp
  obtain ⟨A0, cap0, rfl, c0, -, -, k0⟩ := h0
  obtain ⟨A1, cap1, rfl, c1, -, -, k1⟩ := h1
  obtain ⟨A2, cap2, rfl, c2, -, -, k2⟩ := h2
  rw [l0] at c0 ⊢
  rw [l1] at c1 ⊢
  rw [l2] at c2 ⊢
  rw [l0] at H0
  rw [l1] at H1
  rw [l2] at H2
  have L0 := Lib.hid l0
  have L1 := Lib.hid l1
  have L2 := Lib.hid l2
  have K0 := Lib.hid k0
  have K1 := Lib.hid k1
  have K2 := Lib.hid k2
  clear k0 k1 k2 l0 l1 l2
  go_enter Try.func7, Try.ntmps7
  go_wp2_with fail
  refine (alive_true _).mono ?_
  rintro e w1 ⟨rfl, b⟩
  have B1 := Lib.hid b
  clear b
  obtain ⟨i0, hi, hz0, hz1, hz2⟩ := info_parts infoByte
  go_wp2_with (at_make; go_must (refine wpList_make_full _ rfl (.tmp 34) (.tmp 34) _ rfl w1.heap.size 5 i0 (.int .u8 0) 1 Try.underlying25 hi hz0 hz1 .i64 .i64 _ _ n rfl rfl rfl rfl (by rw [hz2]; omega) (by unfold maxLen; omega) (Nat.le_refl _) ?_; intro w2 hown hgrow; have HO := Lib.hid hown; have HW := Lib.hid hgrow; clear hown hgrow))
  have hnone : ∀ (j : Nat), (none : Option Nat) = some j → w1.heap.size ≤ j := fun j e => by cases e
  have b2 : Below w1.heap.size w1 w2 := (Below.refl w1.heap.size w1).grown HW.out (Nat.le_refl _) hnone
  have C2 := Lib.hid (B1.out.trans (b2.mono B1.out.size))
  have hgw := B1.out.size
  have ho := HO.out
  rw [made_zero] at ho
  have O2 := Lib.hid ho
  clear b2 HO HW ho hnone
  generalize hgg : w1.heap.size = g at *
  clear hgg
  go_loopw [9] (fun i wr => ∃ (j : Nat) (ys : List UInt8), j ≤ n ∧ i = .int .i64 j ∧ ys.length = n ∧ (∀ q, q < j → ys[q]? = (xor2 (xor2 xs0 xs1) xs2)[q]?) ∧ wr.ownsRow g 5 1 (.slice (some ⟨g, 0, none⟩) n n) n (ys.map u8) ∧ Below w.heap.size w wr)
        (fun i _ => n - (intOf i).toNat)
  case atStart => exact ⟨0, List.replicate n 0, by omega, rfl, List.length_replicate, fun q h => absurd h (by omega), O2.out, C2.out⟩
  case round =>
    obtain ⟨j, ys, hj, rfl, hyl, hall, ho, hb⟩ := hrel
    have HO := Lib.hid ho
    have HBw := Lib.hid hb
    have HY := Lib.hid hyl
    have HALL := Lib.hid hall
    clear ho hb hyl hall O2 C2
    by_cases hlt : j < n
    · have hlt' : (j : Int) < n := by omega
      have hj0 : (0 : Int) ≤ j := by omega
      obtain ⟨p0, o0, rfl, q0, z0⟩ := K0.out (by have := L0.out; omega)
      obtain ⟨p1, o1, rfl, q1, z1⟩ := K1.out (by have := L1.out; omega)
      obtain ⟨p2, o2, rfl, q2, z2⟩ := K2.out (by have := L2.out; omega)
      have y0 : j < xs0.length := by have := L0.out; omega
      have y1 : j < xs1.length := by have := L1.out; omega
      have y2 : j < xs2.length := by have := L2.out; omega
      have t0 := (HBw.out.cell (p := ⟨p0, o0 + j, none⟩) q0).trans (z0 j y0)
      have t1 := (HBw.out.cell (p := ⟨p1, o1 + j, none⟩) q1).trans (z1 j y1)
      have t2 := (HBw.out.cell (p := ⟨p2, o2 + j, none⟩) q2).trans (z2 j y2)
      rw [u8_eq] at t0 t1 t2
      have e0 : xs0[j]? = some xs0[j] := List.getElem?_eq_getElem y0
      have e1 : xs1[j]? = some xs1[j] := List.getElem?_eq_getElem y1
      have e2 : xs2[j]? = some xs2[j] := List.getElem?_eq_getElem y2
      have ez := xor3_at e0 e1 e2
      have hval := xor3_val xs0[j] xs1[j] xs2[j]
      have hc := HO.out.cellAt j (by omega)
      rw [List.getElem?_map, List.getElem?_eq_getElem (by have := HY.out; omega), Option.map_some, u8_eq] at hc
      have hfz := HO.out.frozenAt j
      clear z0 z1 z2 e0 e1 e2
      generalize xs0[j] = a at *
      generalize xs1[j] = b at *
      generalize xs2[j] = c at *
      have hst : ∀ wq, wq = wr.setCell ⟨g, j, none⟩ (.int .u8 (bits BinOp.xor IntKind.u8 (bits BinOp.xor IntKind.u8 (a.toNat : Int) (b.toNat : Int)) (c.toNat : Int))) → wq.ownsRow g 5 1 (.slice (some ⟨g, 0, none⟩) n n) n ((ys.set j (a ^^^ b ^^^ c)).map u8) := by
        intro wq e
        have := (HO.out.stored j (u8 (a ^^^ b ^^^ c))).1
        rw [← List.map_set] at this
        rw [e, hval]
        exact this
      have hlen : (ys.set j (a ^^^ b ^^^ c)).length = n := by rw [List.length_set]; exact HY.out
      have hnew : ∀ q, q < j + 1 → (ys.set j (a ^^^ b ^^^ c))[q]? = (xor2 (xor2 xs0 xs1) xs2)[q]? := by
        intro q hq
        by_cases e : j = q
        · subst e
          rw [List.getElem?_set_self (by have := HY.out; omega), ez]
        · rw [List.getElem?_set_ne e]
          exact HALL.out q (by omega)
      have HST := Lib.hid hst
      have HLEN := Lib.hid hlen
      have HNEW := Lib.hid hnew
      have ha0 := u8_lt a
      have hb0 := u8_lt b
      have hc0 := u8_lt c
      clear hst hlen hnew hval ez
      go_wp2
      go_region
      go_wp2
      go_roundw
      case rel => exact ⟨j + 1, ys.set j (a ^^^ b ^^^ c), by omega, by go_num, HLEN.out, HNEW.out, by have := HST.out _ rfl; exact this, below_drew (HBw.out.setCell (p := ⟨g, j, none⟩) hgw _)⟩
      case measure => simp [intOf]; omega
    · obtain rfl : j = n := by omega
      have hlt' : ¬ (j : Int) < j := by omega
      have hys : ys = xor2 (xor2 xs0 xs1) xs2 := by
        apply List.ext_getElem?
        intro q
        by_cases hq : q < j
        · exact HALL.out q hq
        · rw [List.getElem?_eq_none (by rw [HY.out]; omega), List.getElem?_eq_none (by rw [xor3_len L0.out L1.out L2.out]; omega)]
      have TY : Txt wr wr.heap.size (.slice (some ⟨g, 0, none⟩) j j) ys := by
        have := HO.out
        refine Txt.own (base := g) (e := 5) ?_ ?_
        · rw [HY.out]; unfold maxLen; omega
        · rw [HY.out]; exact this
      have hthree := @over_three xs0 xs1 xs2 (by rw [L1.out, L0.out]) (by rw [L2.out, L0.out])
      rw [← hys] at hthree
      have HT := Lib.hid hthree
      have TYH := Lib.hid TY
      clear hys TY hthree
      have hq0 := over_lt (s := 0) (by omega) xs0
      have hq1 := over_lt (s := 0) (by omega) xs1
      have hq2 := over_lt (s := 0) (by omega) xs2
      have hfin : ((over 0 ys : Nat) : Int) = bits BinOp.xor IntKind.u32 (bits BinOp.xor IntKind.u32 ((over 0 xs0 : Nat) : Int) ((over 0 xs1 : Nat) : Int)) ((over 0 xs2 : Nat) : Int) := by
        rw [HT.out, u32_xor_nat _ _ hq0 hq1, u32_xor_nat _ _ (xor_word hq0 hq1) hq2]
      generalize hr0 : over 0 ys = r0 at *
      generalize hr1 : over 0 xs0 = r1 at *
      generalize hr2 : over 0 xs1 = r2 at *
      generalize hr3 : over 0 xs2 = r3 at *
      have hbeq : ((r0 : Int) == bits BinOp.xor IntKind.u32 (bits BinOp.xor IntKind.u32 (r1 : Int) (r2 : Int)) (r3 : Int)) = true := by rw [← hfin]; simp
      have R0 := Lib.hid hr0
      have R1 := Lib.hid hr1
      have R2 := Lib.hid hr2
      have R3 := Lib.hid hr3
      clear hr0 hr1 hr2 hr3 hfin hq0 hq1 hq2 HT
      go_wp2_with fail
      refine (of_any _ ys _ TYH.out).mono ?_
      rintro e w5 ⟨rfl, b⟩
      rw [R0.out]
      have B5 := Lib.hid (HBw.out.trans (b.mono HBw.out.size))
      clear b
      go_wp2_with fail
      refine (of_any _ xs0 _ ((H0.out.below B5.out).more B5.out.size)).mono ?_
      rintro e w6 ⟨rfl, b⟩
      rw [R1.out]
      have B6 := Lib.hid (B5.out.trans (b.mono B5.out.size))
      clear b
      go_wp2_with fail
      refine (of_any _ xs1 _ ((H1.out.below B6.out).more B6.out.size)).mono ?_
      rintro e w7 ⟨rfl, b⟩
      rw [R2.out]
      have B7 := Lib.hid (B6.out.trans (b.mono B6.out.size))
      clear b
      go_wp2_with fail
      refine (of_any _ xs2 _ ((H2.out.below B7.out).more B7.out.size)).mono ?_
      rintro e w8 ⟨rfl, b⟩
      rw [R3.out]
      have B8 := Lib.hid (B7.out.trans (b.mono B7.out.size))
      clear b
      go_wp2
      go_ret
      exact ⟨rfl, B8.out⟩
theorem walk_three (v0 v1 v2 : Value) (xs0 xs1 xs2 : List UInt8) (w : World) (h0 : Txt w w.heap.size v0 xs0) (h1 : Txt w w.heap.size v1 xs1) (h2 : Txt w w.heap.size v2 xs2) :
    Calls Try.prog 7 #[v0, v1, v2] w fun e w' => e = .returned (.bool true) ∧ Below w.heap.size w w' := by
  by_cases h : 5000 < xs0.length ∨ xs1.length ≠ xs0.length ∨ xs2.length ≠ xs0.length
  · exact three_off v0 v1 v2 xs0 xs1 xs2 w h0 h1 h2 h
  · exact three_all xs0.length v0 v1 v2 xs0 xs1 xs2 w h0 h1 h2 (by omega) rfl (by omega) (by omega)
end Go.Proofs.Ytbpmbdndjfdbpaa
