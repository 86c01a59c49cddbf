/-
  The statements CodeNumbers' and CodeWraps' texts return true: the program's answers are the document's own.
  Conditions: none.
-/
import Derived.Test.YthlohfiidogiiaaRefUnwrap
set_option linter.unusedVariables false
set_option linter.unusedSimpArgs false
namespace Go.Proofs.Ythlohfiidogiiaa
open Go.RowKit Go.Shelf

theorem txt_of_own {w : World} {base : Nat} {v : Value} {xs : List UInt8} (hl : xs.length ≤ 200000) (h : w.ownsRow base 5 1 v xs.length (xs.map u8)) : Txt w w.heap.size v xs := Txt.own (by unfold maxLen; omega) h
theorem putSpec_len (x : Int) : (putSpec x).1.length ≤ 200000 := by
  unfold putSpec
  split
  · simp
  · have := bytesOf_length_le (n := x.toNat) (by omega)
    simp only
    omega
theorem wrapSpec_len (xs : List UInt8) (h : xs.length ≤ 100000) : (wrapSpec xs).1.length ≤ 200000 := by
  unfold wrapSpec
  split
  · simp
  · have := bytesOf_length_le (n := xs.length) (by omega)
    simp only [List.length_append]
    omega
theorem unwrapSpec_len (xs : List UInt8) (x y : Int) (h : xs.length ≤ 100000) : (unwrapSpec xs x y).1.length ≤ 200000 := by
  by_cases h0 : (unwrapSpec xs x y).2.2 = 0
  · obtain ⟨k, n, _, _, _, _, e, _⟩ := unwrapSpec_ok h0
    rw [e]
    simp only [List.length_take, List.length_drop]
    omega
  · rw [(unwrapSpec_no h0).1]; simp

set_option maxHeartbeats 1000000 in
theorem walk_numbers (n : Int) (v : Value) (xs : List UInt8) (x : Int) (w : World) (hx : Txt w w.heap.size v xs) :
    Calls Try.prog 4 #[.int .i64 n, v, .int .i64 x] w fun e w' => e = .returned (.bool true) ∧ Below w.heap.size w w' := by
  have r0 := run_txt_string hx
  have HX := Lib.hid hx
  obtain ⟨A, cap, rfl, _, _, _, _⟩ := hx
  by_cases hlong : 10000 < xs.length
  · have g : (10000 : Int) < xs.length := by omega
    go_enter Try.func4, Try.ntmps4
    go_wp2
    go_ret
    exact ⟨rfl, Below.refl _ _⟩
  · have g : ¬ (10000 : Int) < xs.length := by omega
    have HP := Lib.hid (putSpec_len n)
    go_enter Try.func4, Try.ntmps4
    go_wp2_with fail
    refine (put_any n _).mono ?_
    rintro e w1 ⟨u1, rfl, o1, b1⟩
    have T1 := Lib.hid (txt_of_own HP.out o1)
    have B1 := Lib.hid b1
    clear o1 b1
    go_wp2_with fail
    refine (rput_any n _).mono ?_
    rintro e w2 ⟨u2, rfl, o2, b2⟩
    have T2 := Lib.hid (txt_of_own HP.out o2)
    have S1 := Lib.hid ((T1.out.below b2).more b2.size)
    have B2 := Lib.hid (B1.out.trans (b2.mono B1.out.size))
    clear o2 b2 T1 B1
    generalize putSpec n = ps at *
    go_wp2_with fail
    refine (get_any _ xs x _ ((HX.out.below B2.out).more B2.out.size)).mono ?_
    rintro e w3 ⟨rfl, b3⟩
    have R1 := Lib.hid ((S1.out.below b3).more b3.size)
    have R2 := Lib.hid ((T2.out.below b3).more b3.size)
    have B3 := Lib.hid (B2.out.trans (b3.mono B2.out.size))
    clear b3 S1 T2 B2
    go_wp2_with fail
    refine (rget_any _ xs x _ ((HX.out.below B3.out).more B3.out.size) (by omega)).mono ?_
    rintro e w4 ⟨rfl, b4⟩
    have q1 := run_txt_string (R1.out.below b4)
    have q2 := run_txt_string (R2.out.below b4)
    have B4 := Lib.hid (B3.out.trans (b4.mono B3.out.size))
    have q3 := run_txt_string (HX.out.below B4.out)
    clear b4 R1 R2 B3 r0
    generalize getSpec xs x = gs at *
    obtain ⟨g1, g2, g3⟩ := gs
    go_wp2
    go_ret
    exact ⟨rfl, B4.out⟩

set_option maxHeartbeats 2000000 in
theorem walk_wraps (v : Value) (xs : List UInt8) (x y : Int) (w : World) (hx : Txt w w.heap.size v xs) :
    Calls Try.prog 5 #[v, .int .i64 x, .int .i64 y] w fun e w' => e = .returned (.bool true) ∧ Below w.heap.size w w' := by
  have r0 := run_txt_string hx
  have HX := Lib.hid hx
  obtain ⟨A, cap, rfl, _, _, _, _⟩ := hx
  by_cases hlong : 70000 < xs.length
  · have g : (70000 : Int) < xs.length := by omega
    go_enter Try.func5, Try.ntmps5
    go_wp2
    go_ret
    exact ⟨rfl, Below.refl _ _⟩
  · have g : ¬ (70000 : Int) < xs.length := by omega
    have HP := Lib.hid (wrapSpec_len xs (by omega))
    have HU := Lib.hid (unwrapSpec_len xs x y (by omega))
    go_enter Try.func5, Try.ntmps5
    go_wp2_with fail
    refine (wrap_any _ xs _ HX.out).mono ?_
    rintro e w1 ⟨u1, rfl, o1, b1⟩
    have T1 := Lib.hid (txt_of_own HP.out o1)
    have B1 := Lib.hid b1
    clear o1 b1
    go_wp2_with fail
    refine (rwrap_any _ xs _ ((HX.out.below B1.out).more B1.out.size)).mono ?_
    rintro e w2 ⟨u2, rfl, o2, b2⟩
    have T2 := Lib.hid (txt_of_own HP.out o2)
    have S1 := Lib.hid ((T1.out.below b2).more b2.size)
    have B2 := Lib.hid (B1.out.trans (b2.mono B1.out.size))
    clear o2 b2 T1 B1
    generalize wrapSpec xs = ps at *
    go_wp2_with fail
    refine (unwrap_any _ xs x y _ ((HX.out.below B2.out).more B2.out.size)).mono ?_
    rintro e w3 ⟨u3, rfl, o3, b3⟩
    have O3 := Lib.hid o3
    have T3 := Lib.hid (txt_of_own HU.out o3)
    have R1 := Lib.hid ((S1.out.below b3).more b3.size)
    have R2 := Lib.hid ((T2.out.below b3).more b3.size)
    have B3 := Lib.hid (B2.out.trans (b3.mono B2.out.size))
    clear o3 b3 S1 T2
    go_wp2_with fail
    refine (runwrap_any _ xs x y _ ((HX.out.below B3.out).more B3.out.size) (by omega)).mono ?_
    rintro e w4 ⟨u4, rfl, o4, b4⟩
    have q1 := run_txt_string (R1.out.below b4)
    have q2 := run_txt_string (R2.out.below b4)
    have q3 := run_txt_string (T3.out.below b4)
    have q4 := run_txt_string (txt_of_own HU.out o4)
    have O4 := Lib.hid (owns_below O3.out b4)
    have B4 := Lib.hid (B3.out.trans (b4.mono B3.out.size))
    have hbase : w.heap.size ≤ w2.heap.size := B2.out.size
    clear b4 R1 R2 B3 r0 o4 T3 O3 B2
    have HUlen : (unwrapSpec xs x y).1.length ≤ 200000 := HU.out
    generalize unwrapSpec xs x y = us at *
    obtain ⟨ub, un, ue⟩ := us
    dsimp only at *
    have q5 := run_txt_string (HX.out.below B4.out)
    rcases O4.out.2 with ⟨rfl, h0⟩ | ⟨gb, cap3, cur, rfl, hgb, hheap, hcp, hcm, _, _⟩
    · go_wp2
      go_loop [19] (fun i => i = .int .i64 0) (fun _ => 0)
      case atStart => rfl
      case round =>
        obtain rfl := hrel
        go_wp2
        go_ret
        exact ⟨rfl, B4.out⟩
    · have O5 := O4
      generalize hnl : ub.length = nl at *
      have hgw : w.heap.size ≤ gb := by omega
      have Hnl := Lib.hid hnl
      clear hheap hnl O4
      go_wp2
      go_loopw [19] (fun i wr => ∃ (j : Nat) (ys : List UInt8), j ≤ nl ∧ i = .int .i64 j ∧ ys.length = nl ∧ wr.ownsRow w2.heap.size 5 1 (.slice (some ⟨gb, 0, none⟩) nl cap3) nl (ys.map u8) ∧ Below w.heap.size w wr)
        (fun i _ => nl - (intOf i).toNat)
      case atStart => exact ⟨0, ub, Nat.zero_le _, rfl, Hnl.out, O5.out, B4.out⟩
      case round =>
        obtain ⟨j, ys, hj, rfl, hyl, ho, hb⟩ := hrel
        have HO := Lib.hid ho
        have HBw := Lib.hid hb
        have HY := Lib.hid hyl
        have q6 := run_txt_string (HX.out.below hb)
        clear ho hb hyl q1 q2 q3 q4 q5
        by_cases hlt : j < nl
        · have hjy : j < ys.length := by have := HY.out; omega
          have hc := HO.out.cellAt j (by omega)
          rw [List.getElem?_map, List.getElem?_eq_getElem hjy] at hc
          have hfz := HO.out.frozenAt j
          have hby := byte_lt ys[j]
          have hval : u8 (ys[j] + 1) = .int .u8 (((ys[j].toNat : Int) + 1) % 256) := by
            unfold u8
            rw [UInt8.toNat_add]
            congr 1
          have hst : (wr.setCell ⟨gb, j, none⟩ (.int .u8 (((ys[j].toNat : Int) + 1) % 256))).ownsRow w2.heap.size 5 1 (.slice (some ⟨gb, 0, none⟩) nl cap3) nl ((ys.set j (ys[j] + 1)).map u8) := by
            have := (HO.out.stored j (u8 (ys[j] + 1))).1
            rw [← List.map_set, hval] at this
            exact this
          have hyl' : (ys.set j (ys[j] + 1)).length = nl := by rw [List.length_set]; exact HY.out
          have HST := Lib.hid hst
          have HYL := Lib.hid hyl'
          simp only [Option.map_some, u8] at hc
          generalize hys : ys.set j (ys[j] + 1) = ys2 at HST HYL
          generalize hz : (ys[j].toNat : Int) = z at hc hby HST
          have hz0 : 0 ≤ z := by omega
          clear hst hval hz hys hyl'
          go_wp2
          go_roundw
          case rel => exact ⟨j + 1, ys2, by omega, by go_num, HYL.out, HST.out, HBw.out.setCell (p := ⟨gb, j, none⟩) hgw _⟩
          case measure => simp [intOf]; omega
        · go_wp2
          go_ret
          exact ⟨rfl, HBw.out⟩
end Go.Proofs.Ythlohfiidogiiaa
