/-
  The document's own answer: a block, the words at first, bytes filled.
  Conditions: at most 5,000 bytes.
-/
import Derived.Test.YtdaaemnfphagbaaDoorShaRefBehind
set_option linter.unusedVariables false
set_option linter.unusedSimpArgs false
namespace Go.Proofs.YtdaaemnfphagbaaDoor
open Go.RowKit

theorem first_ref (w : World) : Calls Tryd.prog 27 #[] w fun e w' => e = .returned (.agg (row32 begin8)) ∧ Below w.heap.size w w' := by
  have hz8 := zero8.1
  have hset : ((((((((Array.replicate 8 (Value.int .u32 0)).setIfInBounds 0 (.int .u32 1779033703)).setIfInBounds 1 (.int .u32 3144134277)).setIfInBounds 2 (.int .u32 1013904242)).setIfInBounds 3 (.int .u32 2773480762)).setIfInBounds 4 (.int .u32 1359893119)).setIfInBounds 5 (.int .u32 2600822924)).setIfInBounds 6 (.int .u32 528734635)).setIfInBounds 7 (.int .u32 1541459225) = row32 begin8 := by
    rw [set8]; rfl
  have HS := Lib.hid hset
  have hh := heap_alloc_self w (.cells (Array.replicate 8 (.int .u32 0)) 43)
  have HH := Lib.hid hh
  clear hh hset
  go_enter Tryd.func27, Tryd.ntmps27
  go_wp2_with (refine wpList_store_row rfl 43 _ _ rfl w.heap.size rfl rfl HH.out (by rw [HS.out]; exact zero8.2) (by rw [HS.out]; rfl) (by rw [HS.out]; exact row32_one _) ?_; rw [HS.out])
  refine bodyPost_ret (v := .agg (row32 begin8)) ?_ rfl ⟨rfl, below_setRow ((Below.refl _ _).alloc (Nat.le_refl _) _) (Nat.le_refl _) _⟩
  exact results_cell_row rfl _ _ w.heap.size _ _ (0, 0) _ rfl (setRow_heap _ _ _ _ _ _ HH.out) Tryd.underlying43 rfl zero8.2

set_option maxHeartbeats 2000000 in
theorem filled_ref (v : Value) (xs : List UInt8) (hl : xs.length ≤ 5000) (w : World) (hx : Txt w w.heap.size v xs) :
    Calls Tryd.prog 26 #[v] w fun e w' => (∃ g c, e = .returned (.slice (some ⟨g, 0, none⟩) (fill xs).length c) ∧ g < w'.heap.size ∧ (∀ (j : Nat) (h : j < (fill xs).length), w'.cell? ⟨g, j, none⟩ = some (.int .u8 ((fill xs)[j].toNat : Int))) ∧ Txt w' w'.heap.size (.slice (some ⟨g, 0, none⟩) (fill xs).length c) (fill xs)) ∧ Below w.heap.size w w' := by
  have HX := Lib.hid hx
  obtain ⟨A, cap, rfl, -, -, -, -⟩ := hx
  obtain ⟨i0, hi, hz0, hz1, hz2⟩ := info_parts infoByte
  have I0 := Lib.hid hi
  have I1 := Lib.hid hz0
  have I2 := Lib.hid hz1
  have I3 := Lib.hid hz2
  have hmk : ∀ w' : World, (Instr.makeSlice 26 (.int .i64 8) (.int .i64 8)).run Tryd.prog w' = .ok (.slice (some ⟨w'.heap.size, 0, none⟩) 8 8) (w'.alloc (.cells (rowB (List.replicate 8 0)) 5)) := make_noughts 8 (by omega)
  have MK := Lib.hid hmk
  clear hi hz0 hz1 hz2 hmk
  go_enter Tryd.func26, Tryd.ntmps26
  go_wp2_with (first
    | (refine wpList_append_txt (o := ⟨some 9, _, _, _, _, _⟩) rfl (.tmp 7) (.tmp 8) _ rfl Tryd.underlying26 I0.out I1.out I2.out I3.out rfl (World.ownsRow_nil _ w.heap.size 5 1) rfl HX.out (by omega) (Nat.le_refl _) ?_; intro v1 w1 hown1 hgrow1; have b1 := (Below.refl w.heap.size w).grown hgrow1 (Nat.le_refl _) (fun k hk => by cases hk); have B1 := Lib.hid b1; have O1 := Lib.hid hown1; clear b1 hown1 hgrow1)
    | (refine wpList_append_cells (o := ⟨some 12, _, _, _, _, _⟩) rfl (.tmp 10) (.tmp 11) _ rfl Tryd.underlying26 I0.out I1.out rfl I2.out I3.out (by decide) rfl (owns_below O1.out (below_new _ _)) (news := [.int .u8 128]) rfl (fun j u hj => by rw [World.cell?_alloc_new]; simpa using hj) (by simp [Value.oneCell']) (by simp; omega) (Nat.le_trans B1.out.size (by simp)) ?_; intro v2 w2 hown hgrow; have bb := ((B1.out.alloc B1.out.size (.cells #[.int .u8 128] 5)).grown hgrow (Nat.le_trans B1.out.size (by simp)) (own_ge O1.out)); have B2 := Lib.hid bb; have O2 := Lib.hid hown; clear bb hown hgrow))
  obtain ⟨z, hz⟩ : ∃ z, z = 64 * ((xs.length + 8) / 64 + 1) - xs.length - 9 := ⟨_, rfl⟩
  have hfill : fill xs = xs ++ 128 :: (List.replicate z 0 ++ be8 (8 * xs.length)) := by rw [hz]; rfl
  have HZ : Hid (∀ k, k ≤ z → ((xs.length + 1 + k) % 64 = 56 ↔ k = z)) := Lib.hid (fun k hk => by omega)
  have HZL : Hid (z ≤ 70) := Lib.hid (by omega)
  have HF := Lib.hid hfill
  have O3 : Hid (w2.ownsRow w.heap.size 5 1 v2 (xs.length + 1 + 0) ((xs ++ 128 :: List.replicate 0 0).map u8)) := Lib.hid (by
    have := O2.out
    simpa [u8] using this)
  clear hfill hz O1 O2 B1
  go_loopw [3] (fun s3 wr => ∃ k : Nat, k ≤ z ∧ wr.ownsRow w.heap.size 5 1 s3 (xs.length + 1 + k) ((xs ++ 128 :: List.replicate k 0).map u8) ∧ Below w.heap.size w wr) (fun s3 _ => 10000 - lenOf s3)
  case atStart => exact ⟨0, by omega, O3.out, B2.out⟩
  case round =>
    obtain ⟨k, hk, ho, hb⟩ := hrel
    clear O3 B2
    obtain ⟨A3, c3, rfl⟩ := own_slice_ ho
    have HO := Lib.hid ho
    have HB := Lib.hid hb
    clear ho hb
    obtain ⟨q, hq⟩ : ∃ q, q = xs.length + 1 + k := ⟨_, rfl⟩
    have hzz := HZ.out k hk
    have hzl := HZL.out
    rw [← hq] at HO hzz ⊢
    have HQ := Lib.hid hq
    by_cases hlt : k = z
    · have h56 : (q : Int) % 64 = 56 := by have := hzz.2 hlt; omega
      have h56t : (q : Int).tmod 64 = 56 := by rw [Int.tmod_eq_emod_of_nonneg (by omega)]; exact h56
      clear hzz hq
      have mk := MK.out
      go_wp2_with fail
      have htw : rowB [0, 0, 0, 0, 0, 0, 0, 0] = rowB (tailP (8 * xs.length) 0) := by rw [tailP_zero]; rfl
      rw [htw]
      have ht0 := heap_alloc_self wr (.cells (rowB (tailP (8 * xs.length) 0)) 5)
      have hbn := below_new wr (.cells (rowB (tailP (8 * xs.length) 0)) 5)
      generalize wr.alloc (.cells (rowB (tailP (8 * xs.length) 0)) 5) = r0 at ht0 hbn ⊢
      have T0 := Lib.hid ht0
      have T1 := Lib.hid hbn
      clear ht0 hbn htw mk
      generalize wr = wo at *
      go_loopw [4, 6] (fun s4 s6 wx => ∃ k' : Nat, k' ≤ 8 ∧ s4 = .int .i64 ((8 * xs.length / 2 ^ (8 * k') : Nat) : Int) ∧ s6 = .int .i64 (7 - (k' : Int)) ∧ wx.heap[wo.heap.size]? = some (.cells (rowB (tailP (8 * xs.length) k')) 5 (0, 0)) ∧ Below wo.heap.size wo wx) (fun _ s6 _ => (intOf s6 + 1).toNat)
      case atStart => exact ⟨0, by omega, by congr 1; simp, rfl, T0.out, T1.out⟩
      case round =>
        obtain ⟨m, hm, rfl, rfl, q0, q1⟩ := hrel
        clear T0 T1
        have Q1 := Lib.hid q1
        clear q1
        by_cases hml : m < 8
        · obtain ⟨j, hj⟩ : ∃ j, j = 7 - m := ⟨_, rfl⟩
          have hjI : (7 : Int) - m = j := by omega
          have hj8 : (j : Int) < 8 := by omega
          have hset := tailP_set (8 * xs.length) hml
          rw [← hj] at hset
          have hnext : 8 * xs.length / 2 ^ (8 * (m + 1)) = 8 * xs.length / 2 ^ (8 * m) / 256 := by
            rw [Nat.div_div_eq_div_mul, show (256 : Nat) = 2 ^ 8 from rfl, ← Nat.pow_add]
            congr 2
          have hLl : 8 * xs.length / 2 ^ (8 * m) ≤ 40000 := Nat.le_trans (Nat.div_le_self _ _) (by omega)
          obtain ⟨y, hc⟩ : ∃ y, wr.cell? ⟨wo.heap.size, j, none⟩ = some y := ⟨_, (cell_of_row wr wo.heap.size j _ _ _ q0).trans (rowB_at (l := tailP (8 * xs.length) m) (j := j) (by rw [tailP_length _ hm]; omega))⟩
          have hf := frozen_of_row wr wo.heap.size j _ _ q0
          have hrow : (rowB (tailP (8 * xs.length) m)).setIfInBounds j (.int .u8 (((8 * xs.length / 2 ^ (8 * m) : Nat) : Int) % 256)) = rowB (tailP (8 * xs.length) (m + 1)) := by
            rw [← hset, ← rowB_set, UInt8.toNat_ofNat']
            congr 2
          have HSET := Lib.hid hrow
          have HNEXT := Lib.hid hnext
          have Q0 := Lib.hid q0
          have HJ := Lib.hid hj
          clear hset hnext hrow q0 hj
          rw [hjI]
          clear hjI
          generalize 8 * xs.length / 2 ^ (8 * m) = L at *
          go_wp2
          go_roundw
          case measure => first | (simp [intOf]; done) | (simp [intOf]; omega)
          case rel =>
            have := HJ.out
            refine ⟨m + 1, by omega, ?_, ?_, ?_, Q1.out.setCell (Nat.le_refl _) _⟩
            · rw [HNEXT.out]; congr 1
            · congr 1; omega
            · rw [heap_setCell_same _ _ _ _ _ _ Q0.out, HSET.out]
        · obtain rfl : m = 8 := by omega
          have hng : ¬ (0 : Int) ≤ 7 - 8 := by omega
          rw [tailP_all] at q0
          have Q0 := Lib.hid q0
          clear q0
          have hz0 : ((8 * xs.length / 2 ^ (8 * 8) : Nat) : Int) = 0 := by
            have : 8 * xs.length / 2 ^ (8 * 8) = 0 := Nat.div_eq_of_lt (by omega)
            rw [this]; rfl
          rw [hz0, show (7 : Int) - ((8 : Nat) : Int) = -1 by omega]
          have oz := owns_below HO.out Q1.out
          have ow := HB.out.trans (Q1.out.mono HB.out.size)
          have OZ := Lib.hid oz
          have OW := Lib.hid ow
          clear oz ow hz0 hng
          have hlen8 := be8_length (8 * xs.length)
          go_wp2_with (refine wpList_append_cells (o := ⟨some 38, _, _, _, _, _⟩) (c := 8) rfl (.tmp 36) (.tmp 37) _ rfl Tryd.underlying26 I0.out I1.out rfl I2.out I3.out (by decide) rfl OZ.out (b := wo.heap.size) (news := (be8 (8 * xs.length)).map u8) (by rw [List.length_map, hlen8]; rfl) (fun j u hj => by rw [cell_of_row _ _ _ _ _ _ Q0.out]; simpa [rowB] using hj) (u8s_oneCell _) (by rw [List.length_map, hlen8]; have := HQ.out; omega) OW.out.size ?_; intro v5 w5 hown hgrow; have bb := (OW.out.grown hgrow OW.out.size (own_ge OZ.out)); have B5 := Lib.hid bb; have O5 := Lib.hid hown; clear bb hown hgrow)
          have h5 := O5.out
          have hq := HQ.out
          have hfl : (fill xs).length = q + 8 := by
            rw [HF.out, List.length_append, List.length_cons, List.length_append, List.length_replicate, hlen8]; omega
          have hmap : (xs ++ 128 :: List.replicate k 0).map u8 ++ (be8 (8 * xs.length)).map u8 = (fill xs).map u8 := by
            rw [HF.out, hlt, ← List.map_append, List.append_assoc, List.cons_append]
          rw [hmap, List.length_map, hlen8, ← hfl] at h5
          have ht := Txt.own (by unfold maxLen; omega) h5
          rcases id h5.2 with ⟨-, hbad⟩ | ⟨g, c5, cur, rfl, hg, hgb, -, -, -, -⟩
          · omega
          have hcell : ∀ (j : Nat) (h : j < (fill xs).length), w5.cell? ⟨g, j, none⟩ = some (.int .u8 ((fill xs)[j].toNat : Int)) := fun j hj => by
            rw [h5.cellAt j (by omega), List.getElem?_map, List.getElem?_eq_getElem hj]; rfl
          have HT := Lib.hid ht
          have HC := Lib.hid hcell
          have HGB := Lib.hid (heap_lt hgb)
          clear h5 hmap hfl ht hcell hgb hg hlen8 hq O5
          go_ret
          exact ⟨⟨g, c5, rfl, HGB.out, HC.out, HT.out⟩, B5.out⟩
    · have hne : ¬ (q : Int) % 64 = 56 := fun e => hlt (hzz.1 (by omega))
      have hb1 : ((q : Int) % 64 == 56) = false := by simpa using hne
      have hb2 : ((q : Int) % 64 != 56) = true := by simpa using hne
      clear hzz
      go_wp2_with (refine wpList_append_cells (o := ⟨some 19, _, _, _, _, _⟩) rfl (.tmp 17) (.tmp 18) _ rfl Tryd.underlying26 I0.out I1.out rfl I2.out I3.out (by decide) rfl (owns_below HO.out (below_new _ _)) (news := [.int .u8 0]) rfl (fun j u hj => by rw [World.cell?_alloc_new]; simpa using hj) (by simp [Value.oneCell']) (by simp; omega) (Nat.le_trans HB.out.size (by simp)) ?_; intro v4 w4 hown hgrow; have bb := ((HB.out.alloc HB.out.size (.cells #[.int .u8 0] 5)).grown hgrow (Nat.le_trans HB.out.size (by simp)) (own_ge HO.out)); have B4 := Lib.hid bb; have O4 := Lib.hid hown; clear bb hown hgrow)
      obtain ⟨A4, c4, rfl⟩ := own_slice_ O4.out
      go_roundw
      case measure => simp only [lenOf]; have := HQ.out; simp; omega
      case rel =>
        refine ⟨k + 1, by omega, ?_, B4.out⟩
        have := O4.out
        rw [HQ.out] at this ⊢
        simpa [List.replicate_succ', u8, Nat.add_assoc] using this
end Go.Proofs.YtdaaemnfphagbaaDoor
