/-
  The document's own function Bytes: those of a record that may be.
  Conditions: a text of at most 1882 bytes.
-/
import Derived.Test.YtdjoflhcagfmiaaSixNum
import Derived.Test.YtdjoflhcagfmiaaCrcRef
import Derived.Test.YtdjoflhcagfmiaaMBase
set_option linter.unusedVariables false
set_option linter.unusedSimpArgs false
set_option maxRecDepth 100000
namespace Go.Proofs.Ytdjoflhcagfmiaa
open Go.RowKit
theorem own_txt {W : World} {base n : Nat} {v : Value} {ys : List Value} {xs : Bs} (h : W.ownsRow base 5 1 v n ys) (hy : ys = xs.map u8) (hn : n = xs.length) (hl : xs.length ≤ 4000) : Txt W W.heap.size v xs := by
  subst hy hn
  exact Txt.own (by unfold maxLen; omega) h

set_option maxHeartbeats 4000000 in
theorem rbytes_any (g : Nat) (tv : Value) (t : Bs) (hg : g < 4294967296) (hl : t.length ≤ 1882) (w : World) (h : Txt w w.heap.size tv t) :
    Calls Try.prog 64 #[.agg #[.int .u32 (g : Int), tv]] w fun e w' => ∃ y, e = .returned y ∧ w'.ownsRow w.heap.size 5 1 y (bodyR g t).length ((bodyR g t).map u8) ∧ Below w.heap.size w w' := by
  obtain ⟨i0, hi, hz0, hz1, hz2⟩ := info_parts infoByte
  have J0 := Lib.hid hi
  have J1 := Lib.hid hz0
  have J2 := Lib.hid hz1
  have J3 := Lib.hid hz2
  have HX := Lib.hid h
  have HL := Lib.hid hl
  obtain ⟨A, c, rfl, -, -, -, -⟩ := h
  have hq0 := heap_alloc_self w (.cells #[.int .u32 (g : Int), .slice A t.length c] 36)
  have hqb := below_new w (.cells #[.int .u32 (g : Int), .slice A t.length c] 36)
  have hs : over 0 (le 4 g ++ (le 2 t.length ++ t)) = sumR g t := rfl
  have HS := Lib.hid hs
  have HSL : Hid (sumR g t < 4294967296) := Lib.hid (sumR_lt g t)
  clear hi hz0 hz1 hz2 hl hs
  go_enter Try.func64, Try.ntmps64
  go_wp2_with fail
  generalize w.alloc (.cells #[.int .u32 (g : Int), .slice A t.length c] 36) = q at hq0 hqb ⊢
  have X0 := Lib.hid hq0
  have QB := Lib.hid hqb
  have QL : Hid (w.heap.size ≤ q.heap.size) := Lib.hid hqb.size
  have Q0 := Lib.hid (Below.refl q.heap.size q).drew
  clear hq0 hqb
  refine wp_region_held_drew (S := fun v => Below q.heap.size q v) (by kernel_rfl) Q0.out (fun hHeld => ?_)
  refine wpAnyH_take (i := 0) (v := ?_) rfl (by kernel_rfl) (by kernel_rfl) (by kernel_rfl) (fun _ _ _ h => h) (Or.inl ⟨by rfl, ?_⟩) hHeld ?_
  rotate_left
  · intro w' hSw; have cu := (((hSw.block _ (heap_lt X0.out)).trans X0.out)); obtain ⟨cu0, cu1⟩ := cell2_of cu; go_simp; try with_reducible rfl
  simp only [List.getElem_toArray, List.getElem_cons_succ, List.getElem_cons_zero, Act.put, List.setIfInBounds_toArray, List.set_cons_zero, List.set_cons_succ]
  refine wpAnyH_take (i := 1) (v := ?_) rfl (by kernel_rfl) (by kernel_rfl) (by kernel_rfl) (fun _ _ _ h => h) (Or.inl ⟨by rfl, ?_⟩) hHeld ?_
  rotate_left
  · intro w' hSw; have cu := (((hSw.block _ (heap_lt X0.out)).trans X0.out)); obtain ⟨cu0, cu1⟩ := cell2_of cu; go_simp; try with_reducible rfl
  simp only [List.getElem_toArray, List.getElem_cons_succ, List.getElem_cons_zero, Act.put, List.setIfInBounds_toArray, List.set_cons_zero, List.set_cons_succ]
  refine wpAnyH_take (i := 2) (v := ?_) rfl (by kernel_rfl) (by kernel_rfl) (by kernel_rfl) (fun _ _ _ h => h) (Or.inl ⟨by rfl, ?_⟩) hHeld ?_
  rotate_left
  · intro w' hSw; go_simp; try with_reducible rfl
  simp only [List.getElem_toArray, List.getElem_cons_succ, List.getElem_cons_zero, Act.put, List.setIfInBounds_toArray, List.set_cons_zero, List.set_cons_succ]
  refine wpAnyH_take (i := 4) (v := ?_) rfl (by kernel_rfl) (by kernel_rfl) (by kernel_rfl) (fun _ _ _ h => h) (Or.inl ⟨by rfl, ?_⟩) hHeld ?_
  rotate_left
  · intro w' hSw; have cu := (((hSw.block _ (heap_lt X0.out)).trans X0.out)); obtain ⟨cu0, cu1⟩ := cell2_of cu; go_simp; try with_reducible rfl
  simp only [List.getElem_toArray, List.getElem_cons_succ, List.getElem_cons_zero, Act.put, List.setIfInBounds_toArray, List.set_cons_zero, List.set_cons_succ]
  refine wpAnyH_take (i := 5) (v := ?_) rfl (by kernel_rfl) (by kernel_rfl) (by kernel_rfl) (fun _ _ _ h => h) (Or.inl ⟨by rfl, ?_⟩) hHeld ?_
  rotate_left
  · intro w' hSw; have cu := (((hSw.block _ (heap_lt X0.out)).trans X0.out)); obtain ⟨cu0, cu1⟩ := cell2_of cu; go_simp; try with_reducible rfl
  simp only [List.getElem_toArray, List.getElem_cons_succ, List.getElem_cons_zero, Act.put, List.setIfInBounds_toArray, List.set_cons_zero, List.set_cons_succ]
  refine wpAnyH_ready (rs := [3]) (by kernel_rfl) (by simp) ?_
  refine AllReadyH.cons rfl (fun K hK => ?_) AllReadyH.nil
  go_simp
  refine (rnumber_any t.length 2 (by have := HL.out; omega) (by omega) q.drew).mono ?_
  rintro e wA ⟨y, rfl, ho, bA⟩
  obtain ⟨A5, c5, rfl⟩ := own_slice_ ho
  have OA : Hid (wA.ownsRow q.heap.size 5 1 (.slice A5 2 c5) 2 ((le 2 t.length).map u8)) := Lib.hid ho
  have BA := Lib.hid ((Q0.out).trans bA)
  clear ho bA
  try go_wp2_with fail
  refine hK.out _ _ ?_ (fun hHeld => ?_)
  · exact BA.out
  clear hK K
  try simp only [List.getElem_toArray, List.getElem_cons_succ, List.getElem_cons_zero, Act.put, List.setIfInBounds_toArray, List.set_cons_zero, List.set_cons_succ]
  refine wpAnyH_ready (rs := [6]) (by kernel_rfl) (by simp) ?_
  refine AllReadyH.cons rfl (fun K hK => ?_) AllReadyH.nil
  rw [if_pos (by rfl)]
  refine wp_append_txt (.tmp 8) (.tmp 10) _ rfl Try.underlying34 J0.out J1.out J2.out J3.out rfl OA.out rfl (HX.out.below (QB.out.trans (BA.out.mono QB.out.size))) (by have := HL.out; omega) BA.out.size ?_
  intro v3 w3 hown3 hgrow3
  have O3 := Lib.hid hown3
  have B3 : Hid (Below q.heap.size q w3) := Lib.hid (BA.out.grown hgrow3 BA.out.size (own_ge OA.out))
  clear hown3 hgrow3 OA BA
  try go_wp2_with fail
  refine hK.out _ _ ?_ (fun hHeld => ?_)
  · exact B3.out
  clear hK K
  try simp only [List.getElem_toArray, List.getElem_cons_succ, List.getElem_cons_zero, Act.put, List.setIfInBounds_toArray, List.set_cons_zero, List.set_cons_succ]
  refine wpAnyH_take (i := 7) (v := ?_) rfl (by kernel_rfl) (by kernel_rfl) (by kernel_rfl) (fun _ _ _ h => h) (Or.inl ⟨by rfl, ?_⟩) hHeld ?_
  rotate_left
  · intro w' hSw; go_simp; try with_reducible rfl
  simp only [List.getElem_toArray, List.getElem_cons_succ, List.getElem_cons_zero, Act.put, List.setIfInBounds_toArray, List.set_cons_zero, List.set_cons_succ]
  refine wpAnyH_done (by kernel_rfl) ?_ _
  obtain ⟨A3, c3, rfl⟩ := own_slice_ O3.out
  obtain ⟨L, hL⟩ : ∃ L, L = le 2 t.length ++ t := ⟨_, rfl⟩
  have HLL := Lib.hid hL
  have hLl : L.length = 2 + t.length := by rw [hL, List.length_append, le_length]
  have HLN := Lib.hid hLl
  have TL : Hid (Txt w3 w3.heap.size (.slice A3 (2 + t.length) c3) L) := Lib.hid (own_txt O3.out (by rw [hL, List.map_append]) hLl.symm (by have := HL.out; omega))
  have X3 := Lib.hid ((B3.out.block _ (heap_lt X0.out)).trans X0.out)
  have BW := Lib.hid (QB.out.trans (B3.out.mono QB.out.size))
  obtain ⟨k0, k1⟩ := cell2_of X3.out
  clear X0 O3 B3 Q0 hL hLl QB QL
  go_wp2_with fail
  refine (rnumber_any g 4 (by omega) (by omega) w3).mono ?_
  rintro e w4 ⟨y4, rfl, ho4, b4⟩
  obtain ⟨A4, c4, rfl⟩ := own_slice_ ho4
  have O4 := Lib.hid ho4
  have B4 := Lib.hid b4
  have T4 := Lib.hid ((TL.out.below b4).more b4.size)
  clear ho4 b4 X3 k0 k1
  go_wp2_with (refine wpList_append_txt (o := ⟨some 17, _, _, _, _, _⟩) rfl (.tmp 15) (.tmp 16) _ rfl Try.underlying34 J0.out J1.out J2.out J3.out rfl O4.out rfl T4.out (by rw [HLN.out]; have := HL.out; omega) B4.out.size ?_; intro v5 w5 hown5 hgrow5; obtain ⟨A5, c5, rfl⟩ := own_slice_ hown5; have O5 := Lib.hid hown5; have B5 := Lib.hid (B4.out.grown hgrow5 B4.out.size (own_ge O4.out)); clear hown5 hgrow5)
  have tx5 : Txt w5 w5.heap.size (.slice A5 (4 + L.length) c5) (le 4 g ++ L) := own_txt O5.out (by rw [List.map_append]) (by rw [List.length_append, le_length]) (by rw [List.length_append, le_length, HLN.out]; have := HL.out; omega)
  have T5 := Lib.hid ((TL.out.below B5.out).more B5.out.size)
  have BW5 := Lib.hid (BW.out.trans (B5.out.mono BW.out.size))
  clear O4 B4 T4 O5
  refine (rof_any _ (le 4 g ++ L) w5 tx5).mono ?_
  rintro e w6 ⟨rfl, rfl⟩
  rw [HLL.out, HS.out, ← HLL.out]
  have hsl := HSL.out
  clear tx5
  go_wp2_with fail
  refine (rnumber_any (sumR g t) 4 (by omega) (by omega) _).mono ?_
  rintro e w7 ⟨y7, rfl, ho7, b7⟩
  obtain ⟨A7, c7, rfl⟩ := own_slice_ ho7
  have O7 := Lib.hid (owns_mono ho7 BW5.out.size)
  have T7 := Lib.hid ((T5.out.below b7).more b7.size)
  have BW7 := Lib.hid (BW5.out.trans (b7.mono BW5.out.size))
  clear ho7 b7 T5 BW5 B5 TL BW
  go_wp2_with (refine wpList_append_txt (o := ⟨some 23, _, _, _, _, _⟩) rfl (.tmp 21) (.tmp 22) _ rfl Try.underlying34 J0.out J1.out J2.out J3.out rfl O7.out rfl T7.out (by rw [HLN.out]; have := HL.out; omega) BW7.out.size ?_; intro v8 w8 hown8 hgrow8; obtain ⟨A8, c8, rfl⟩ := own_slice_ hown8; have O8 := Lib.hid hown8; have B8 := Lib.hid (BW7.out.grown hgrow8 BW7.out.size (own_ge O7.out)); clear hown8 hgrow8)
  go_ret
  refine ⟨_, rfl, ?_, B8.out⟩
  have hb : bodyR g t = le 4 (sumR g t) ++ L := by rw [HLL.out]; rfl
  have h := O8.out
  rw [hb, List.length_append, le_length, List.map_append]
  exact h
end Go.Proofs.Ytdjoflhcagfmiaa
