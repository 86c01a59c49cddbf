/-
  The document's own function Sectors: those of a record that may be.
  Conditions: a text of at most 1882 bytes.
-/
import Derived.Test.YtdjoflhcagfmiaaSixBytes
import Derived.Test.YtdjoflhcagfmiaaSixZeros
import Derived.Laws.Small
set_option linter.unusedVariables false
set_option linter.unusedSimpArgs false
set_option maxRecDepth 100000
namespace Go.Proofs.Ytdjoflhcagfmiaa
open Go.RowKit

theorem u8_of_nat {i : Nat} (h : i < 256) : Value.int .u8 (i : Int) = u8 (UInt8.ofNat i) := by
  have : (UInt8.ofNat i).toNat = i := by simp; omega
  rw [u8, this]
theorem head_row {g i n : Nat} (hi : i < 256) (hn : n < 256) : (le 4 g).map u8 ++ [Value.int .u8 (i : Int), Value.int .u8 (n : Int)] = (le 4 g ++ [UInt8.ofNat i, UInt8.ofNat n]).map u8 := by
  rw [u8_of_nat hi, u8_of_nat hn, List.map_append]; rfl
theorem u8s_zero (m : Nat) : List.replicate m (Value.int .u8 0) = (List.replicate m (0 : UInt8)).map u8 := by rw [List.map_replicate]; rfl

theorem Txt.sub' {W : World} {B n : Nat} {A : Option Addr} {cap k L : Nat} {xs : Bs} (h : Txt W B (.slice A n cap) xs) (hn : n = xs.length) (hL : 0 < L) (hk : k + L ≤ n) :
    ∃ b o, A = some ⟨b, o, none⟩ ∧ n ≤ cap ∧ Txt W B (.slice (some ⟨b, o + k, none⟩) L (cap - k)) ((xs.drop k).take L) := by
  subst hn
  exact h.sub hL hk
theorem sec_row {g i N Z : Nat} {p : Bs} (hZ : Z = 118 - p.length) : ((((le 4 g ++ [UInt8.ofNat i, UInt8.ofNat N]).map u8 ++ p.map u8) ++ List.replicate Z (.int .u8 0)) ++ (le 4 g).map u8) = (secP g i N p).map u8 := by
  rw [u8s_zero, ← List.map_append, ← List.map_append, ← List.map_append, secP, padB, hZ]
  simp only [List.append_assoc, List.cons_append, List.nil_append]
theorem secs_next {g i : Nat} {t B : Bs} (hB : B = bodyR g t) (hi : i < cntR t) : (secsR g t).take (i + 1) = (secsR g t).take i ++ [secR g B i] := by
  rw [List.take_add_one, secsR_at hi, hB]; rfl
set_option maxHeartbeats 8000000 in
theorem rsectors_any (g : Nat) (tv : Value) (t : Bs) (hg : g < 4294967296) (hl : t.length ≤ 1882) (w : World) (h : Txt w w.heap.size tv t) :
    Calls Try.prog 40 #[.agg #[.int .u32 (g : Int), tv]] w fun e w' => ∃ y, e = .returned y ∧ SecsAt w' w.heap.size y (secsR g t) ∧ Below w.heap.size w w' := by
  obtain ⟨i0, hi, hz0, hz1, hz2⟩ := info_parts infoByte
  have J0 := Lib.hid hi
  have J1 := Lib.hid hz0
  have J2 := Lib.hid hz1
  have J3 := Lib.hid hz2
  clear hi hz0 hz1 hz2
  obtain ⟨i1, hi, hz0, hz1, hz2⟩ := info_parts infoSlice
  have K0 := Lib.hid hi
  have K1 := Lib.hid hz0
  have K2 := Lib.hid hz1
  have K3 := Lib.hid hz2
  clear hi hz0 hz1 hz2
  have HX := Lib.hid h
  obtain ⟨A, c, rfl, -, -, -, -⟩ := h
  have hq0 := heap_alloc_self w (.cells #[.int .u32 (g : Int), .slice A t.length c] 36)
  have hqb := below_new w (.cells #[.int .u32 (g : Int), .slice A t.length c] 36)
  have hbl := bodyR_length g t
  obtain ⟨B, hB⟩ : ∃ B, B = bodyR g t := ⟨_, rfl⟩
  have HBB := Lib.hid hB
  rw [← hB] at hbl
  obtain ⟨bl, hbl'⟩ : ∃ bl, bl = B.length := ⟨_, rfl⟩
  have HBL := Lib.hid hbl'
  rw [← hbl'] at hbl
  obtain ⟨N, hN⟩ : ∃ N, N = cntR t := ⟨_, rfl⟩
  have HN := Lib.hid hN
  have hN16 : N ≤ 16 := by rw [hN]; exact cntR_le hl
  have hNb : N = (bl + 117) / 118 := by rw [hN, cntR]; omega
  have hb6 : 6 ≤ bl := by omega
  have hb1888 : bl ≤ 1888 := by omega
  have HQ : Hid (((bl : Int) + 118 - 1) / 118 = N) := Lib.hid (by omega)
  have HNB := Lib.hid hNb
  have HLT := Lib.hid hl
  clear hbl hN hB hbl' hl hNb
  go_enter Try.func40, Try.ntmps40
  go_wp2_with fail
  generalize w.alloc (.cells #[.int .u32 (g : Int), .slice A t.length c] 36) = q at hq0 hqb ⊢
  have QL : Hid (w.heap.size ≤ q.heap.size) := Lib.hid hqb.size
  refine (rbytes_any g _ t hg HLT.out q ((HX.out.below hqb).more hqb.size)).mono ?_
  rintro e wL ⟨y, rfl, ho, b1⟩
  rw [← HBB.out, ← HBL.out] at ho
  obtain ⟨A1, c1, rfl⟩ := own_slice_ ho
  have TB : Hid (Txt wL wL.heap.size (.slice A1 bl c1) B) := Lib.hid (own_txt ho rfl HBL.out (by have := HBL.out; omega))
  have BL := Lib.hid (hqb.trans (b1.mono QL.out))
  have X0 := Lib.hid ((b1.block _ (heap_lt hq0)).trans hq0)
  clear hq0 hqb ho b1
  go_wp2_with fail
  rw [HQ.out]
  clear HQ
  go_loopw [5, 6] (fun s5 s6 wr => ∃ i : Nat, i ≤ N ∧ s6 = .int .i64 i ∧ SecsAt wr wL.heap.size s5 ((secsR g t).take i) ∧ Below wL.heap.size wL wr) (fun _ s6 _ => N - (intOf s6).toNat)
  case atStart => exact ⟨0, by omega, by go_num, SecsAt.nil_ _ _, Below.refl _ _⟩
  case round =>
    obtain ⟨i, hi, rfl, hs, hb⟩ := hrel
    obtain ⟨A5, c5, h5⟩ := secs_slice hs
    have hti : ((secsR g t).take i).length = i := by rw [List.length_take, secsR_length, ← HN.out]; omega
    rw [hti] at h5
    subst h5
    have HTI := Lib.hid hti
    have BW := Lib.hid hb
    have HS := Lib.hid hs
    have XR := Lib.hid ((hb.block _ (heap_lt X0.out)).trans X0.out)
    obtain ⟨k0, k1⟩ := cell2_of XR.out
    clear hs hb hti
    by_cases hlt : i < N
    · have hlt' : (i : Int) < N := by omega
      obtain ⟨a, ha⟩ : ∃ a, a = 118 * i := ⟨_, rfl⟩
      have HA := Lib.hid ha
      have ha1 : 118 * (i : Int) = a := by omega
      have hab : a < bl := by have := HNB.out; omega
      obtain ⟨M, hM⟩ : ∃ M, M = min bl (a + 118) := ⟨_, rfl⟩
      have HM := Lib.hid hM
      have hM1 : M ≤ bl := by omega
      have hM2 : a < M := by omega
      have hM3 : M ≤ a + 118 := by omega
      have hmin : (if (a : Int) + 118 < bl then (a : Int) + 118 else (bl : Int)) = M := by split <;> omega
      have hmin2 : min (bl : Int) ((a : Int) + 118) = M := by omega
      have hP : pieceB B i = (B.drop a).take (M - a) := by
        rw [pieceB, ← ha, hM, HBL.out]
        apply List.ext_getElem?
        intro j
        rw [List.getElem?_take, List.getElem?_take, List.getElem?_drop]
        split
        · split
          · rfl
          · rw [List.getElem?_eq_none (by omega)]
        · split
          · omega
          · rfl
      have HP := Lib.hid hP
      have hPL : ((B.drop a).take (M - a)).length = M - a := by rw [List.length_take, List.length_drop]; have := HBL.out; omega
      have HPL := Lib.hid hPL
      obtain ⟨bb, ob, hA1, hcb, hsub⟩ := ((TB.out.below BW.out).more BW.out.size).sub' HBL.out (k := a) (L := M - a) (by omega) (by omega)
      subst hA1
      have HSUB := Lib.hid hsub
      obtain ⟨Z, hZ⟩ : ∃ Z, Z = 118 - (M - a) := ⟨_, rfl⟩
      have HZ := Lib.hid hZ
      have hz1 : 118 - ((M : Int) - a) = Z := by omega
      have hz2 : 118 - ((M - a : Nat) : Int) = Z := by omega
      obtain ⟨E1, hE1⟩ : ∃ E1, E1 = 6 + (M - a) := ⟨_, rfl⟩
      have HE1 : Hid (4 + 2 + ((B.drop a).take (M - a)).length = E1) := Lib.hid (by rw [hPL]; omega)
      have HE2 : Hid (E1 + Z = 124) := Lib.hid (by omega)
      have hE1l : E1 ≤ 124 := by omega
      have hMc : M ≤ c1 := by omega
      have hMci : (M : Int) ≤ c1 := by omega
      have hca : ¬ c1 = a := by omega
      have hcai : ¬ (c1 : Int) = a := by omega
      clear hsub hcb hZ hE1
      have HSE : Hid (secP g i N ((B.drop a).take (M - a)) = secR g B i) := Lib.hid (by rw [secR, ← hP, HBB.out, cntB_body, ← HN.out])
      have HPZ : Hid (Z = 118 - ((B.drop a).take (M - a)).length) := Lib.hid (by rw [hPL]; exact HZ.out)
      clear ha hM hP hPL
      go_wp2_with fail
      refine (rnumber_any g 4 (by omega) (by omega) wr).mono ?_
      rintro e w1 ⟨y1, rfl, ho1, b1⟩
      obtain ⟨A2, c2, rfl⟩ := own_slice_ ho1
      have O1 := Lib.hid ho1
      have B1 := Lib.hid b1
      have hi256 : (i : Int) < 256 := by omega
      have hn256 : (N : Int) < 256 := by omega
      clear ho1 b1
      go_wp2_with (first | ((with_reducible show wpList _ _ _ (⟨some 30, _, _, _, _, _⟩ :: _) _ _); refine wpList_append_any rfl (.tmp 24) (.tmp 29) _ rfl Try.underlying34 J0.out J1.out rfl J2.out (by decide) J3.out (by decide) rfl (O1.out.alloc _) (m := 2) rfl (news := [.int .u8 (i : Int), .int .u8 (N : Int)]) rfl (fun j u hj => by rw [World.cell?_alloc_new]; simpa using hj) (by simp [Value.oneCell']) (by omega) (by have := B1.out.size; simp; omega) ?_; intro v3 w3 hown3 hgrow3; obtain ⟨A3, c3, rfl⟩ := own_slice_ hown3; rw [head_row (by omega) (by omega)] at hown3; have O3 := Lib.hid hown3; have B3 := Lib.hid ((B1.out.alloc B1.out.size _).grown hgrow3 (Nat.le_trans B1.out.size (by simp)) (own_ge O1.out)); clear hown3 hgrow3; have HS3 := Lib.hid ((HSUB.out.below B3.out).more B3.out.size)) | ((with_reducible show wpList _ _ _ (⟨some 43, _, _, _, _, _⟩ :: _) _ _); refine wpList_append_txt (o := ⟨some 43, _, _, _, _, _⟩) rfl (.tmp 41) (.tmp 42) _ rfl Try.underlying34 J0.out J1.out J2.out J3.out rfl O3.out (u := .slice (some ⟨bb, ob + a, none⟩) (M - a) (c1 - a)) rfl HS3.out (by rw [HPL.out]; omega) B3.out.size ?_; intro v4 w4 hown4 hgrow4; rw [HE1.out] at hown4; obtain ⟨A4, c4, rfl⟩ := own_slice_ hown4; have O4 := Lib.hid hown4; have B4 := Lib.hid (B3.out.grown hgrow4 B3.out.size (own_ge O3.out)); clear hown4 hgrow4) | ((with_reducible show wpList _ _ _ (⟨some 48, _, _, _, _, _⟩ :: _) _ _); refine wpList_append_zeros (o := ⟨some 48, _, _, _, _, _⟩) rfl (.tmp 44) (.tmp 47) _ _ rfl Try.underlying34 Try.underlying3 J0.out J1.out J2.out J3.out rfl O4.out (m := Z) rfl (by omega) B4.out.size ?_; intro v5 w5 hown5 hgrow5; rw [HE2.out] at hown5; obtain ⟨A5', c5', rfl⟩ := own_slice_ hown5; have O5 := Lib.hid hown5; have B5 := Lib.hid (B4.out.grown hgrow5 B4.out.size (own_ge O4.out)); clear hown5 hgrow5; obtain ⟨m0, m1⟩ := cell2_of ((B5.out.block _ (heap_lt XR.out)).trans XR.out)))
      refine (rnumber_any g 4 (by omega) (by omega) _).mono ?_
      rintro e w6 ⟨y6, rfl, ho6, b6⟩
      obtain ⟨A6, c6, rfl⟩ := own_slice_ ho6
      have O6 := Lib.hid (owns_below O5.out b6)
      have T6 := Lib.hid (own_txt ho6 rfl (le_length 4 g).symm (by rw [le_length]; omega))
      have B6 := Lib.hid (B5.out.trans (b6.mono B5.out.size))
      clear ho6 b6 O5 B5
      go_wp2_with (first | ((with_reducible show wpList _ _ _ (⟨some 55, _, _, _, _, _⟩ :: _) _ _); refine wpList_append_txt (o := ⟨some 55, _, _, _, _, _⟩) rfl (.tmp 50) (.tmp 54) _ rfl Try.underlying34 J0.out J1.out J2.out J3.out rfl O6.out rfl T6.out (by rw [le_length]; omega) B6.out.size ?_; intro v7 w7 hown7 hgrow7; rw [show 124 + (le 4 g).length = 128 from by rw [le_length], sec_row HPZ.out, HSE.out] at hown7; obtain ⟨A7, c7, rfl⟩ := own_slice_ hown7; have O7 := Lib.hid hown7; have B7 := Lib.hid (B6.out.grown hgrow7 B6.out.size (own_ge O6.out)); clear hown7 hgrow7; obtain ⟨ys, hO, hYL, hmx, hE, hD⟩ := HS.out; rw [HTI.out] at hO; have OB := Lib.hid (owns_below hO B7.out)) | ((with_reducible show wpList _ _ _ (⟨some 57, _, _, _, _, _⟩ :: _) _ _); refine wpList_append_any rfl (.tmp 49) (.tmp 56) _ rfl Try.underlying26 K0.out K1.out rfl K2.out (by decide) K3.out (by decide) rfl (OB.out.alloc _) (m := 1) rfl (news := [.slice A7 128 c7]) rfl (fun j u hj => by rw [World.cell?_alloc_new]; simpa using hj) (by simp [Value.oneCell']) (by omega) (by have := BW.out.size; have := B7.out.size; simp; omega) ?_; intro v9 w9 hown9 hgrow9))
      have h128 := secR_length g B i
      have hsn : SecsAt w9 wL.heap.size v9 ((secsR g t).take (i + 1)) := by
        rw [secs_next HBB.out (by rw [← HN.out]; exact hlt)]
        have hy : w7.ownsRow wr.heap.size 5 1 (.slice A7 128 c7) (secR g B i).length ((secR g B i).map Go.Proofs.Ytdjoflhcagfmiaa.u8) := by rw [h128]; exact O7.out
        exact secs_snoc (ss := (secsR g t).take i) (by rw [HTI.out]; exact hO) hYL hE hD BW.out.size B7.out hy (by rw [h128]; unfold maxLen; omega) (by rw [HTI.out]; unfold maxLen; omega) (by rw [HTI.out]; exact hown9) hgrow9
      have HSN := Lib.hid hsn
      have B9 := Lib.hid (((BW.out.trans (B7.out.mono BW.out.size)).alloc (Nat.le_trans BW.out.size B7.out.size) _).grown hgrow9 (by have := BW.out.size; have := B7.out.size; simp; omega) (fun k hk => own_ge hO k hk))
      obtain ⟨A9, c9, h9⟩ := own_slice_ hown9
      subst h9
      clear hsn hown9 hgrow9 hO hYL hmx hE hD h128
      go_roundw
      case measure => simp [intOf]; omega
      case rel => exact ⟨i + 1, by omega, by go_num, HSN.out, B9.out⟩
    · obtain rfl : i = N := by omega
      have hlt' : ¬ (i : Int) < i := by omega
      have HF : Hid (SecsAt wr w.heap.size (.slice A5 i c5) (secsR g t)) := Lib.hid (by
        have h := HS.out
        rw [List.take_of_length_le (by rw [secsR_length, ← HN.out]; exact Nat.le_refl _)] at h
        exact h.mono (BL.out.size))
      go_wp2_with fail
      go_ret
      exact ⟨_, rfl, HF.out, BL.out.trans (BW.out.mono BL.out.size)⟩
end Go.Proofs.Ytdjoflhcagfmiaa
