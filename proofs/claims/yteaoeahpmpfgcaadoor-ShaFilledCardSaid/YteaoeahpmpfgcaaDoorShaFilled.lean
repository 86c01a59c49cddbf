/-
  The statement ShaFilled's text returns true: what filled bytes are made of.
  Conditions: the table of constants reads as it was laid.
-/
import Derived.Test.YteaoeahpmpfgcaaDoorShaNames
set_option linter.unusedVariables false
set_option linter.unusedSimpArgs false
namespace Go.Proofs.YteaoeahpmpfgcaaDoor
open Go.RowKit

theorem filled_off (v0 v1 : Value) (xs ys : List UInt8) (w : World) (hT : Tab w) (h0 : Txt w w.heap.size v0 xs) (h1 : Txt w w.heap.size v1 ys) (h : 3000 < xs.length ∨ 3000 < ys.length) :
    Calls Tryd.prog 6 #[v0, v1] w fun e w' => e = .returned (.bool true) ∧ Below w.heap.size w w' := by
  obtain ⟨A0, cap0, rfl, -, -, -, -⟩ := h0
  obtain ⟨A1, cap1, rfl, -, -, -, -⟩ := h1
  have HT := Lib.hid hT
  clear hT
  by_cases g1 : 3000 < xs.length
  · have g1' : decide ((3000 : Int) < xs.length) = true := decide_eq_true (by omega)
    clear h
    go_enter Tryd.func6, Tryd.ntmps6
    go_wp2_with fail
    refine (alive_true _ HT.out).mono ?_
    rintro e w1 ⟨rfl, b⟩
    have B1 := Lib.hid b
    clear b
    go_wp2
    go_ret
    exact ⟨rfl, B1.out⟩
  · have g1' : decide ((3000 : Int) < xs.length) = false := decide_eq_false (by omega)
    have g2' : decide ((3000 : Int) < ys.length) = true := decide_eq_true (by omega)
    clear h
    go_enter Tryd.func6, Tryd.ntmps6
    go_wp2_with fail
    refine (alive_true _ HT.out).mono ?_
    rintro e w1 ⟨rfl, b⟩
    have B1 := Lib.hid b
    clear b
    go_wp2
    go_ret
    exact ⟨rfl, B1.out⟩

set_option maxHeartbeats 2000000 in
theorem filled_all (v0 v1 : Value) (xs ys : List UInt8) (w : World) (hT : Tab w) (h0 : Txt w w.heap.size v0 xs) (h1 : Txt w w.heap.size v1 ys) (hl : xs.length ≤ 3000) (hl' : ys.length ≤ 3000) :
    Calls Tryd.prog 6 #[v0, v1] w fun e w' => e = .returned (.bool true) ∧ Below w.heap.size w w' := by
  have HT := Lib.hid hT
  have H0 := Lib.hid h0
  have H1 := Lib.hid h1
  have g1' : decide ((3000 : Int) < xs.length) = false := decide_eq_false (by omega)
  have g2' : decide ((3000 : Int) < ys.length) = false := decide_eq_false (by omega)
  obtain ⟨A0, cap0, rfl, -, -, -, -⟩ := h0
  obtain ⟨A1, cap1, rfl, -, -, -, -⟩ := h1
  clear hT
  go_enter Tryd.func6, Tryd.ntmps6
  go_wp2_with fail
  refine (alive_true _ HT.out).mono ?_
  rintro e w1 ⟨rfl, b⟩
  have B1 := Lib.hid b
  clear b
  go_wp2_with fail
  refine (filled_any _ xs (by omega) _ ((H0.out.below B1.out).more B1.out.size)).mono ?_
  rintro e w2 ⟨rfl, hf, b⟩
  have B2 := Lib.hid (B1.out.trans (b.mono B1.out.size))
  have FX := Lib.hid hf
  clear b hf
  go_wp2_with fail
  refine (filled_any _ ys (by omega) _ ((H1.out.below B2.out).more B2.out.size)).mono ?_
  rintro e w3 ⟨rfl, hf, b⟩
  have B3 := Lib.hid (B2.out.trans (b.mono B2.out.size))
  have FX3 := Lib.hid ((b.block _ (heap_lt FX.out)).trans FX.out)
  have FY3 := Lib.hid hf
  clear b hf FX
  obtain ⟨bx, hbx⟩ : ∃ bx, bx = w1.heap.size := ⟨_, rfl⟩
  obtain ⟨by', hby⟩ : ∃ by', by' = w2.heap.size := ⟨_, rfl⟩
  rw [← hbx] at FX3 ⊢
  rw [← hby] at FY3 ⊢
  clear hbx hby B1 B2
  clear w1
  clear w2
  have hlen := fill_length xs
  obtain ⟨M, hM⟩ : ∃ M, M = 64 * ((xs.length + 8) / 64 + 1) := ⟨_, rfl⟩
  have TY : Hid (Txt w3 w3.heap.size (.slice (some ⟨by', 0, none⟩) (fill ys).length (fill ys).length) (fill ys)) := Lib.hid (txt_of_block FY3.out (by rw [fill_length]; unfold maxLen; omega))
  have tx := txt_of_block FX3.out (by rw [fill_length]; unfold maxLen; omega)
  rw [hlen, ← hM] at tx ⊢
  have TX := Lib.hid tx
  have FN := Lib.hid (fun (i : Nat) (a : xs.length < i) (b : i + 8 < M) => fill_nought xs a (by rw [← hM]; exact b))
  have FC := Lib.hid (fun (t : Nat) (a : t < 8) => (show (fill xs)[M - 8 + t]? = some (UInt8.ofNat (8 * xs.length / 2 ^ (56 - 8 * t))) by rw [hM]; exact fill_count xs a))
  have FT := Lib.hid (fill_take xs)
  have FM := Lib.hid (fill_mark xs)
  have LEN : Hid ((fill xs).length = M) := Lib.hid (by rw [hlen, hM])
  have INJ : Hid (fill xs = fill ys → xs = ys) := Lib.hid (fun h => fill_inj hl hl' h)
  have SAM : Hid (xs = ys → fill xs = fill ys) := Lib.hid (fun h => by rw [h])
  have LY : Hid ((fill ys).length ≤ 6400) := Lib.hid (by rw [fill_length]; omega)
  generalize fill xs = X at *
  generalize fill ys = Y at *
  have m2 : decide ((M : Int) < xs.length + 9) = false := decide_eq_false (by omega)
  have m3 : decide ((xs.length : Int) + 72 < M) = false := decide_eq_false (by omega)
  have m4 : (M : Int) % 64 = 0 := by omega
  have m5 : (M : Int).tmod 64 = 0 := by rw [Int.tmod_eq_emod_of_nonneg (by omega)]; exact m4
  have m6 : (xs.length : Int) < M := by omega
  have m7 : (M : Int) ≤ 6400 := by omega
  have m8 : xs.length + 9 ≤ M := by omega
  have HM := Lib.hid hM
  have HL := Lib.hid hlen
  clear hM hlen tx
  have cL : w3.cell? ⟨bx, xs.length, none⟩ = some (.int .u8 128) := by
    rw [cell_of_row _ _ _ _ _ _ FX3.out]
    simp only [rowB, List.getElem?_toArray, List.getElem?_map, FM.out, Option.map_some]; rfl
  have cutT : Txt w3 w3.heap.size (.slice (some ⟨bx, 0, none⟩) xs.length M) xs := by
    refine ⟨some ⟨bx, 0, none⟩, M, rfl, by omega, by unfold maxLen; omega, fun e => (by cases e), fun _ => ⟨bx, 0, rfl, heap_lt FX3.out, fun j hj => ?_⟩⟩
    have hx : X[j]? = some xs[j] := by
      have h2 : (X.take xs.length)[j]? = some xs[j] := by rw [FT.out]; exact List.getElem?_eq_getElem hj
      rwa [List.getElem?_take, if_pos hj] at h2
    rw [Nat.zero_add, cell_of_row _ _ _ _ _ _ FX3.out]
    simp only [rowB, List.getElem?_toArray, List.getElem?_map, hx, Option.map_some]
  have CT := Lib.hid cutT
  clear cutT
  have cut : ∀ nq, (convert 25 9 (.slice (some ⟨bx, 0, none⟩) xs.length M)).run Tryd.prog (w3.drewN nq) = .ok (.string ⟨xs.toArray⟩) (w3.drewN nq) := fun nq => run_txt_string (W := w3.drewN nq) CT.out
  have whole : ∀ nq, (convert 25 9 (.slice A0 xs.length cap0)).run Tryd.prog (w3.drewN nq) = .ok (.string ⟨xs.toArray⟩) (w3.drewN nq) := fun nq =>
    run_txt_string (W := w3.drewN nq) ((H0.out.below B3.out).more B3.out.size)
  go_wp2_with fail
  go_quiet (fail)
  go_wp2_with fail
  have hu : Below w.heap.size w (w3.drewN nq) := below_drewN B3.out nq
  have UX : Hid ((w3.drewN nq).heap[bx]? = some (.cells (rowB X) 5 (0, 0))) := Lib.hid FX3.out
  have r1 := run_txt_string (W := w3.drewN nq) TX.out
  have r2 := run_txt_string (W := w3.drewN nq) TY.out
  have r3 := run_txt_string (W := w3.drewN nq) ((H0.out.below B3.out).more B3.out.size)
  have r4 := run_txt_string (W := w3.drewN nq) ((H1.out.below B3.out).more B3.out.size)
  generalize w3.drewN nq = u at hu UX r1 r2 r3 r4 ⊢
  have U := Lib.hid hu
  have R1 := Lib.hid r1
  have R2 := Lib.hid r2
  have R3 := Lib.hid r3
  have R4 := Lib.hid r4
  clear hu r1 r2 r3 r4 cut whole cL FX3 FY3 TX TY CT B3
  clear w3
  go_loop [8, 9] (fun s8 s9 => ∃ i : Nat, xs.length + 1 ≤ i ∧ i ≤ M ∧ s9 = .int .i64 i ∧ s8 = .int .i64 ((toldN (8 * xs.length) M i : Nat) : Int)) (fun _ s9 => M - (intOf s9).toNat)
  case atStart => exact ⟨xs.length + 1, by omega, by omega, by go_num, by rw [toldN_early (by omega) (by omega)]; rfl⟩
  case round =>
    obtain ⟨i, hi1, hi2, rfl, rfl⟩ := hrel
    by_cases hlt : i < M
    · have hlt' : (i : Int) < M := by omega
      have hwr : IntKind.i64.wrap ((M : Int) - 8) = M - 8 := IntWalk.i64_in _ (by omega)
      by_cases h8 : i + 8 < M
      · have e1 : decide ((i : Int) < (M : Int) - 8) = true := decide_eq_true (by omega)
        have e2 : (i : Int) < (M : Int) - 8 := by omega
        have e3 : ¬ (M : Int) - 8 ≤ i := by omega
        have e4 : decide ((M : Int) - 8 ≤ i) = false := decide_eq_false e3
        have hc : u.cell? ⟨bx, i, none⟩ = some (.int .u8 0) := by
          rw [cell_of_row _ _ _ _ _ _ UX.out]
          simp only [rowB, List.getElem?_toArray, List.getElem?_map, FN.out i (by omega) h8, Option.map_some]; rfl
        rw [toldN_early (i := i) (by omega) (by omega)]
        have hz := toldN_early (n := 8 * xs.length) (M := M) (i := i + 1) (by omega) (by omega)
        have HZ := Lib.hid hz
        clear hz
        go_wp2
        go_round
        case rel => exact ⟨i + 1, by omega, by omega, by go_num, by rw [HZ.out]⟩
        case measure => simp [intOf]; omega
      · have e2 : ¬ (i : Int) < (M : Int) - 8 := by omega
        have e1 : decide ((i : Int) < (M : Int) - 8) = false := decide_eq_false e2
        have e3 : (M : Int) - 8 ≤ i := by omega
        have e4 : decide ((M : Int) - 8 ≤ i) = true := decide_eq_true e3
        obtain ⟨t, ht⟩ : ∃ t, i = M - 8 + t := ⟨i - (M - 8), by omega⟩
        have hcn := FC.out t (by omega)
        have hnx := toldN_late (n := 8 * xs.length) (M := M) (t := t) (by omega) (by omega)
        rw [← Nat.add_assoc, ← ht] at hnx
        rw [← ht] at hcn
        have hc : u.cell? ⟨bx, i, none⟩ = some (.int .u8 (((UInt8.ofNat (8 * xs.length / 2 ^ (56 - 8 * t))).toNat : Nat) : Int)) := by
          rw [cell_of_row _ _ _ _ _ _ UX.out]
          simp only [rowB, List.getElem?_toArray, List.getElem?_map, hcn, Option.map_some]; rfl
        have hxl := UInt8.toNat_lt (UInt8.ofNat (8 * xs.length / 2 ^ (56 - 8 * t)))
        have hvl := toldN_le (8 * xs.length) M i
        have HNX := Lib.hid hnx
        clear hnx hcn ht
        generalize (UInt8.ofNat (8 * xs.length / 2 ^ (56 - 8 * t))).toNat = x at *
        generalize toldN (8 * xs.length) M i = V at *
        go_wp2
        go_round
        case rel => exact ⟨i + 1, by omega, by omega, by go_num, by rw [HNX.out]; go_num⟩
        case measure => simp [intOf]; omega
    · obtain rfl : i = M := by omega
      have hlt' : ¬ (i : Int) < i := by omega
      rw [toldN_all]
      have r1 := R1.out
      have r2 := R2.out
      have r3 := R3.out
      have r4 := R4.out
      have hd : ((X == Y) == (xs == ys)) = true := by
        by_cases he : xs = ys
        · rw [SAM.out he, he]; simp
        · rw [beq_false_of_ne he, beq_false_of_ne (fun e => he (INJ.out e))]; rfl
      go_wp2
      go_ret
      exact ⟨rfl, U.out⟩

theorem walk_filled (v0 v1 : Value) (xs ys : List UInt8) (w : World) (hT : Tab w) (h0 : Txt w w.heap.size v0 xs) (h1 : Txt w w.heap.size v1 ys) :
    Calls Tryd.prog 6 #[v0, v1] w fun e w' => e = .returned (.bool true) ∧ Below w.heap.size w w' := by
  by_cases h : 3000 < xs.length ∨ 3000 < ys.length
  · exact filled_off v0 v1 xs ys w hT h0 h1 h
  · exact filled_all v0 v1 xs ys w hT h0 h1 (by omega) (by omega)
end Go.Proofs.YteaoeahpmpfgcaaDoor
