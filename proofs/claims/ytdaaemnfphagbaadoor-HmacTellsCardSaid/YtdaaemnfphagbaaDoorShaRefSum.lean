/-
  The document's own answer: the hash of bytes.
  Conditions: at most 5,000 bytes.
-/
import Derived.Test.YtdaaemnfphagbaaDoorShaRefFill
set_option linter.unusedVariables false
set_option linter.unusedSimpArgs false
namespace Go.Proofs.YtdaaemnfphagbaaDoor
open Go.RowKit

/-- Where all stands, behind n blocks. -/
def SAt (w : World) (g bh : Nat) (X : List UInt8) (n : Nat) (v : World) : Prop :=
  v.heap[w.heap.size]? = some (.cells (Array.replicate 32 (.int .u8 0)) 22 (0, 0)) ∧ v.heap[bh]? = some (.cells (row32 (hashTo X begin8 n)) 43 (0, 0)) ∧
  (∀ (j : Nat) (h : j < X.length), v.cell? ⟨g, j, none⟩ = some (.int .u8 (X[j].toNat : Int))) ∧ g < v.heap.size ∧ Below w.heap.size w v
theorem SAt.below {w v v' : World} {g bh n : Nat} {X : List UInt8} (a : SAt w g bh X n v) (b : Below v.heap.size v v') : SAt w g bh X n v' :=
  ⟨(b.block _ (heap_lt a.1)).trans a.1, (b.block _ (heap_lt a.2.1)).trans a.2.1, fun j h => (b.cell (p := ⟨g, j, none⟩) a.2.2.2.1).trans (a.2.2.1 j h), Nat.lt_of_lt_of_le a.2.2.2.1 b.size, a.2.2.2.2.trans (b.mono a.2.2.2.2.size)⟩

set_option maxHeartbeats 2000000 in
theorem sum_ref (v : Value) (xs : List UInt8) (hl : xs.length ≤ 5000) (w : World) (hx : Txt w w.heap.size v xs) :
    Calls Tryd.prog 21 #[v] w fun e w' => e = .returned (.agg (rowB (sumL xs))) ∧ Below w.heap.size w w' := by
  have hz8 := zero8.1
  have hz32 := zero32.1
  have HX := Lib.hid hx
  obtain ⟨A, cap, rfl, -, -, -, -⟩ := hx
  go_enter Tryd.func21, Tryd.ntmps21
  go_wp2_with fail
  have hu0 := heap_alloc_self w (.cells (Array.replicate 32 (.int .u8 0)) 22)
  have hub := below_new w (.cells (Array.replicate 32 (.int .u8 0)) 22)
  generalize w.alloc (.cells (Array.replicate 32 (.int .u8 0)) 22) = u at hu0 hub ⊢
  have U0 := Lib.hid hu0
  have UB := Lib.hid hub
  clear hu0 hub
  refine (filled_ref _ xs hl _ ((HX.out.below UB.out).more UB.out.size)).mono ?_
  rintro e w2 ⟨⟨g, c, rfl, hg, hcell, -⟩, b⟩
  have F0 := Lib.hid ((b.block _ (heap_lt U0.out)).trans U0.out)
  have FB := Lib.hid (UB.out.trans (b.mono UB.out.size))
  have hlen := fill_length xs
  obtain ⟨X, hX⟩ : ∃ X, X = fill xs := ⟨_, rfl⟩
  obtain ⟨N, hN⟩ : ∃ N, N = (xs.length + 8) / 64 + 1 := ⟨_, rfl⟩
  have hsum : sumL xs = told32 (hashTo X begin8 N) := by rw [hX, hN]; rfl
  have FC : Hid (∀ (j : Nat) (h : j < X.length), w2.cell? ⟨g, j, none⟩ = some (.int .u8 (X[j].toNat : Int))) := Lib.hid (by rw [hX]; exact hcell)
  rw [← hX, ← hN] at hlen
  rw [← hX, hlen]
  have SUM := Lib.hid hsum
  have LEN := Lib.hid hlen
  have NB : Hid (1 ≤ N ∧ N ≤ 100) := Lib.hid (by omega)
  have HG := Lib.hid hg
  obtain ⟨M, hM⟩ : ∃ M, M = 64 * N := ⟨_, rfl⟩
  rw [← hM]
  have HM := Lib.hid hM
  have hM2 : (M : Int) ≤ 6400 := by omega
  clear hsum hlen hX hN hcell hg b U0 UB hM HX
  clear u
  go_wp2_with fail
  refine (first_ref _).mono ?_
  rintro e w3 ⟨rfl, b⟩
  have A0 := Lib.hid ((b.block _ (heap_lt F0.out)).trans F0.out)
  have AB := Lib.hid (FB.out.trans (b.mono FB.out.size))
  have AC : Hid (∀ (j : Nat) (h : j < X.length), w3.cell? ⟨g, j, none⟩ = some (.int .u8 (X[j].toNat : Int))) := Lib.hid (fun j h => (b.cell (p := ⟨g, j, none⟩) HG.out).trans (FC.out j h))
  have AG : Hid (g < w3.heap.size) := Lib.hid (Nat.lt_of_lt_of_le HG.out b.size)
  clear b F0 FB FC HG
  clear w2
  go_wp2_with (refine wpList_store_row rfl 43 _ _ rfl w3.heap.size rfl rfl (heap_alloc_self _ _) zero8.2 (by simp [row32_size, begin8]) (row32_one _) ?_; rw [World.setRow_alloc_new])
  have hv : SAt w g w3.heap.size X 0 (w3.alloc (.cells (row32 begin8) 43)) :=
    ⟨(heap_alloc_lt _ _ (heap_lt A0.out)).trans A0.out, heap_alloc_self _ _, fun j h => ((below_new w3 _).cell (p := ⟨g, j, none⟩) AG.out).trans (AC.out j h), by rw [heap_alloc_size]; have := AG.out; omega, AB.out.alloc AB.out.size _⟩
  have GH : Hid (w.heap.size < w3.heap.size) := Lib.hid (heap_lt A0.out)
  generalize w3.alloc (.cells (row32 begin8) 43) = q at hv ⊢
  have HV := Lib.hid hv
  obtain ⟨bh, hbh⟩ : ∃ bh, bh = w3.heap.size := ⟨_, rfl⟩
  rw [← hbh] at HV GH AG ⊢
  clear hv hbh A0 AB AC
  clear w3
  go_loopw [5] (fun s5 wr => ∃ n : Nat, n ≤ N ∧ s5 = .int .i64 ((64 * n : Nat) : Int) ∧ SAt w g bh X n wr) (fun s5 _ => 6400 - (intOf s5).toNat)
  case atStart => exact ⟨0, by omega, rfl, HV.out⟩
  case round =>
    obtain ⟨n, hn, rfl, hat⟩ := hrel
    have AT := Lib.hid hat
    clear hat HV
    obtain ⟨P, hP⟩ : ∃ P, P = 64 * n := ⟨_, rfl⟩
    rw [← hP]
    have HP := Lib.hid hP
    by_cases hlt : n < N
    · have hPM : (P : Int) + 64 ≤ M := by have := HM.out; omega
      have hP0 : (P : Int) < M := by omega
      have hk : P + 64 ≤ X.length := by have := LEN.out; omega
      have HK := Lib.hid hk
      have HN := Lib.hid hn
      have OKN := Lib.hid (hashTo_ok begin8_ok X n)
      clear hP hk hn
      go_wp2_with (refine wpList_load_row rfl 43 _ rfl bh rfl AT.out.2.1 Tryd.underlying43 (by rw [row32_size, OKN.out.1]; exact zero8.2) ?_)
      refine (behind_ref _ OKN.out g P M c ((X.drop P).take 64) (by rw [List.length_take, List.length_drop]; have := HK.out; omega) _ AT.out.2.2.2.1 (fun j hj => by
        rw [List.length_take, List.length_drop] at hj
        rw [AT.out.2.2.1 (P + j) (by have := HK.out; omega), List.getElem_take, List.getElem_drop]) (by have := HK.out; have := LEN.out; have := HM.out; omega) (by omega)).mono ?_
      rintro e w4 ⟨rfl, b⟩
      have hu := AT.out.below b
      have OK1 := Lib.hid (hashTo_ok begin8_ok X (n + 1))
      have hst : blockL (hashTo X begin8 n) ((X.drop P).take 64) = hashTo X begin8 (n + 1) := by rw [HP.out]; rfl
      rw [hst]
      have HU := Lib.hid hu
      clear hu b hst
      go_wp2_with (refine wpList_store_row rfl 43 _ _ rfl bh rfl rfl HU.out.2.1 (by rw [row32_size, OK1.out.1]; exact zero8.2) (by rw [row32_size, row32_size, OK1.out.1, OKN.out.1]) (row32_one _) ?_)
      go_roundw
      case measure => simp [intOf]; omega
      case rel =>
        have g1 := GH.out
        have g2 := AG.out
        obtain ⟨r0, r1, r2, r3, r4⟩ := HU.out
        refine ⟨n + 1, by have := HN.out; omega, by rw [show ((64 * (n + 1) : Nat) : Int) = (P : Int) + 64 by have := HP.out; omega], ?_, setRow_heap _ _ _ _ _ _ r1, ?_, by rw [size_setRow]; exact r3, below_setRow r4 (by omega) _⟩
        · rw [setRow_other _ _ _ _ (by omega)]; exact r0
        · intro j h
          rw [cell_setRow_other _ _ _ _ (show g ≠ bh by omega)]; exact r2 j h
    · obtain rfl : n = N := by omega
      have hPM : P = M := by have := HM.out; omega
      have hlt' : ¬ (M : Int) < M := by omega
      rw [hPM]
      obtain ⟨H, hH⟩ : ∃ H, H = hashTo X begin8 n := ⟨_, rfl⟩
      have OKH : Hid (W32 8 H) := Lib.hid (by rw [hH]; exact hashTo_ok begin8_ok X n)
      obtain ⟨r0, r1, r2, r3, r4⟩ := AT.out
      rw [← hH] at r1
      have HEQ := Lib.hid hH
      have R0 := Lib.hid r0
      have R1 := Lib.hid r1
      have R3 := Lib.hid r4
      clear hH r0 r1 r2 r3 r4 AT hlt hP hPM
      go_wp2_with fail
      have hv0 := heap_alloc_self wr (.cells (Array.replicate 32 (.int .u8 0)) 22)
      have hv1 := (heap_alloc_lt wr (.cells (Array.replicate 32 (.int .u8 0)) 22) (heap_lt R0.out)).trans R0.out
      have hv2 := (heap_alloc_lt wr (.cells (Array.replicate 32 (.int .u8 0)) 22) (heap_lt R1.out)).trans R1.out
      have hv3 : Below w.heap.size w (wr.alloc (.cells (Array.replicate 32 (.int .u8 0)) 22)) := R3.out.alloc R3.out.size _
      have GB : Hid (bh < wr.heap.size) := Lib.hid (heap_lt R1.out)
      generalize wr.alloc (.cells (Array.replicate 32 (.int .u8 0)) 22) = q2 at hv0 hv1 hv2 hv3 ⊢
      obtain ⟨bo, hbo⟩ : ∃ bo, bo = wr.heap.size := ⟨_, rfl⟩
      rw [← hbo] at hv0 GB ⊢
      have V0 := Lib.hid hv0
      have V1 := Lib.hid hv1
      have V2 := Lib.hid hv2
      have V3 := Lib.hid hv3
      clear hv0 hv1 hv2 hv3 hbo R0 R1 R3
      clear wr
      go_loopw [7] (fun s7 wx => ∃ i : Nat, i ≤ 32 ∧ s7 = .int .i64 i ∧ wx.heap[w.heap.size]? = some (.cells (Array.replicate 32 (.int .u8 0)) 22 (0, 0)) ∧ wx.heap[bh]? = some (.cells (row32 H) 43 (0, 0)) ∧ wx.heap[bo]? = some (.cells (rowB (tf (told32 H) 0 i)) 22 (0, 0)) ∧ Below w.heap.size w wx) (fun s7 _ => 32 - (intOf s7).toNat)
      case atStart => exact ⟨0, by omega, rfl, V1.out, V2.out, by rw [tf_zero, rowB_zero, told32_length]; exact V0.out, V3.out⟩
      case round =>
        obtain ⟨i, hi, rfl, q0, q1, q2, q3⟩ := hrel
        clear V0 V1 V2 V3
        have Q0 := Lib.hid q0
        have Q1 := Lib.hid q1
        have Q2 := Lib.hid q2
        have Q3 := Lib.hid q3
        clear q0 q1 q2 q3
        by_cases hlt : i < 32
        · have hlt' : (i : Int) < 32 := by omega
          obtain ⟨j, hj⟩ : ∃ j, j = i / 4 := ⟨_, rfl⟩
          obtain ⟨r, hr⟩ : ∃ r, r = i % 4 := ⟨_, rfl⟩
          obtain ⟨k, hk⟩ : ∃ k, k = 24 - 8 * r := ⟨_, rfl⟩
          have hjI : (i : Int) / 4 = j := by omega
          have hrI : (i : Int) % 4 = r := by omega
          have hrT : (i : Int).tmod 4 = r := by rw [Int.tmod_eq_emod_of_nonneg (by omega)]; exact hrI
          have hkI : (24 : Int) - (r : Int) * 8 = k := by omega
          have hkI' : (24 : Int) - 8 * (r : Int) = k := by omega
          have hj8 : (j : Int) < 8 := by omega
          have hr4 : (r : Int) < 4 := by omega
          have hk32 : (k : Int) < 32 := by omega
          have hk31 : k ≤ 31 := by omega
          have hset := tf_set (told32 H) 0 (i := i) (by rw [told32_length]; exact hlt)
          rw [told32_at H hlt, ← hj, ← hr, ← hk] at hset
          have hrow : (rowB (tf (told32 H) 0 i)).setIfInBounds i (.int .u8 (((H.getD j 0 / 2 ^ k : Nat) : Int) % 256)) = rowB (tf (told32 H) 0 (i + 1)) := by
            rw [← hset, ← rowB_set, UInt8.toNat_ofNat']
            congr 2
          have hc := row32_cell Q1.out (j := j) (n := H.getD j 0) (by rw [List.getD_eq_getElem?_getD, List.getElem?_eq_getElem (by rw [OKH.out.1]; omega)]; rfl)
          have hx := OKH.out.getD j
          have HSET := Lib.hid hrow
          clear hrow hset hj hr hk
          generalize H.getD j 0 = x at *
          go_wp2_with fail
          refine (shifted_any x k _ hx hk31 (by rfl) _).mono ?_
          rintro e w' ⟨rfl, hw'⟩
          obtain rfl := hw'.symm
          obtain ⟨y, hc2⟩ : ∃ y, wr.cell? ⟨bo, i, none⟩ = some y := ⟨_, (cell_of_row wr bo i _ _ _ Q2.out).trans (rowB_at (l := tf (told32 H) 0 i) (j := i) (by rw [tf_length _ _ (by rw [told32_length]; omega), told32_length]; exact hlt))⟩
          have hf := frozen_of_row wr bo i _ _ Q2.out
          have hY : x / 2 ^ k < 4294967296 := Nat.lt_of_le_of_lt (Nat.div_le_self _ _) hx
          generalize x / 2 ^ k = Y at *
          clear hc
          go_wp2
          go_roundw
          case measure => simp [intOf]; omega
          case rel =>
            have g1 := GH.out
            have g2 := GB.out
            refine ⟨i + 1, by omega, by go_num, ?_, ?_, ?_, Q3.out.setCell (show w.heap.size ≤ bo by omega) _⟩
            · rw [heap_setCell_other _ _ _ _ (show w.heap.size ≠ bo by omega)]; exact Q0.out
            · rw [heap_setCell_other _ _ _ _ (show bh ≠ bo by omega)]; exact Q1.out
            · rw [heap_setCell_same _ _ _ _ _ _ Q2.out, HSET.out]
        · obtain rfl : i = 32 := by omega
          have hlt' : ¬ (32 : Int) < 32 := by omega
          have hall : rowB (tf (told32 H) 0 32) = rowB (sumL xs) := by
            have := tf_all (told32 H) (0 : UInt8)
            rw [told32_length] at this
            rw [this, SUM.out, HEQ.out]
          rw [hall] at Q2
          have hl32 : (sumL xs).length = 32 := by rw [SUM.out, told32_length]
          have HL := Lib.hid hl32
          clear hall hl32 hlt
          go_wp2_with (first
            | refine wpList_load_row rfl 22 _ rfl bo rfl Q2.out Tryd.underlying22 (by rw [rowB_size, HL.out]; exact zero32.2) ?_
            | refine wpList_store_row rfl 22 _ _ rfl w.heap.size rfl rfl Q0.out (by rw [rowB_size, HL.out]; exact zero32.2) (by rw [rowB_size, HL.out]; simp) (rowB_one _) ?_)
          refine bodyPost_ret (v := .agg (rowB (sumL xs))) ?_ rfl ⟨rfl, below_setRow Q3.out (Nat.le_refl _) _⟩
          exact results_cell_row rfl _ _ w.heap.size _ _ (0, 0) _ rfl (setRow_heap _ _ _ _ _ _ Q0.out) Tryd.underlying22 rfl (by rw [rowB_size, HL.out]; exact zero32.2)
end Go.Proofs.YtdaaemnfphagbaaDoor
