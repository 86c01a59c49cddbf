/-
  The statement TrackTells's text returns true.
  Conditions: none.
-/
import Derived.Test.YtnhglgpmmipjaaaTrkOwn
set_option linter.unusedVariables false
set_option linter.unusedSimpArgs false
set_option maxRecDepth 100000
namespace Go.Proofs.Ytnhglgpmmipjaaa
open Go.RowKit

set_option maxHeartbeats 4000000 in
theorem walk_tells (hp : TrkSaid) (v : Value) (l : List Sec) (id k : Int) (w : World) (h : SectsIn w w.heap.size v l) :
    Calls Try.prog 4 #[v, .int .i64 id, .int .i64 k] w fun e w' => e = .returned (.bool true) ∧ Below w.heap.size w w' := by
  have H := Lib.hid h
  obtain ⟨A, c, rfl, -, -⟩ := h.slice
  obtain ⟨n, hn⟩ : ∃ n, n = l.length := ⟨_, rfl⟩
  have HN := Lib.hid hn
  rw [← hn] at H ⊢
  clear h hn
  obtain ⟨i0, hi, hz0, hz1, hz2⟩ := info_parts infoSec
  have I0 := Lib.hid hi
  have I1 := Lib.hid hz0
  have I2 := Lib.hid hz1
  have I3 := Lib.hid hz2
  clear hi hz0 hz1 hz2
  go_enter Try.func4, Try.ntmps4
  go_wp2_with fail
  refine (rgreat_any _ l w H.out).mono ?_
  rintro e w' ⟨⟨g, rfl, hg⟩, hw'⟩
  obtain rfl : w = w' := hw'.symm
  cases g with
  | true =>
    go_wp2_with fail
    go_ret
    exact ⟨rfl, Below.refl _ _⟩
  | false =>
    have HF : Hid (Few l) := Lib.hid (hg rfl)
    clear hg
    have hn40 : n ≤ 40 := by rw [HN.out]; exact HF.out.1
    go_wp2_with fail
    go_loopw [7, 8] (fun s7 s8 wr => ∃ i : Nat, i ≤ n ∧ s8 = .int .i64 i ∧ SectsOwn wr w.heap.size s7 (l.take i) ∧ Below w.heap.size w wr) (fun _ s8 _ => n - (intOf s8).toNat)
    case atStart => exact ⟨0, by omega, rfl, ListOwn.nil_, Below.refl _ _⟩
    case round =>
      obtain ⟨i, hi, rfl, ho, hb⟩ := hrel
      have HB := Lib.hid hb
      clear hb
      by_cases hlt : i < n
      · have hlt' : (i : Int) < n := by omega
        have hls : i < l.length := by have := HN.out; omega
        have HTS : Hid (l.take (i + 1) = l.take i ++ [l[i]]) := Lib.hid (by rw [List.take_add_one, List.getElem?_eq_getElem hls]; rfl)
        have HFI : Hid (l[i].2.2.length ≤ 20) := Lib.hid (HF.out.2 _ (List.getElem_mem hls))
        obtain ⟨b, off, rfl, hbb, hc0, hc1, u, hc2, hu⟩ := ((H.out.below secR_ HB.out).more secR_ HB.out.size).at hls
        generalize l[i] = s at HTS HFI hc0 hc1 hu
        obtain ⟨sid, spt, es⟩ := s
        dsimp only at HFI hc0 hc1 hu
        obtain ⟨Au, cu, rfl, -, -⟩ := hu.slice
        have hg0 : wr.cell? ⟨b, off + i * 3, none⟩ = some (.int .i64 sid) := hc0
        have hg1 : wr.cell? ⟨b, off + i * 3 + 1, none⟩ = some (.int .i64 spt) := hc1
        have hg2 : wr.cell? ⟨b, off + i * 3 + 2, none⟩ = some (.slice Au es.length cu) := hc2
        have HSV : Hid (SecV wr wr.heap.size (.agg #[.int .i64 sid, .int .i64 spt, .slice Au es.length cu]) (sid, spt, es)) := Lib.hid ⟨_, rfl, hu⟩
        have LL : Hid ((l.take i).length = i) := Lib.hid (by rw [List.length_take]; omega)
        obtain ⟨yss, hown, hyl, hm, hys, hyr⟩ := ho
        rw [LL.out] at hown hyl
        have O := Lib.hid hown
        have YL := Lib.hid hyl
        have YS := Lib.hid hys
        have YR := Lib.hid hyr
        obtain ⟨A7, c7, rfl⟩ := own_sliceN hown
        obtain ⟨m, hm⟩ : ∃ m, m = es.length := ⟨_, rfl⟩
        have HM := Lib.hid hm
        rw [← hm] at HFI HSV hg2
        clear hc0 hc1 hc2 hu hown hyl hm hys hyr hbb hls
        go_wp2_with fail
        refine (rtwin7_any _ (sid, spt, es) wr HSV.out (by show es.length ≤ 1000; have := HM.out; have := HFI.out; omega)).mono ?_
        rintro e w2 ⟨u2, rfl, hu2, b2⟩
        obtain ⟨A2, c2, rfl⟩ := hu2.slice
        have B2 := Lib.hid b2
        have O2 := Lib.hid hu2
        dsimp only at O2 ⊢
        rw [← HM.out] at O2 ⊢
        clear hu2 b2 hg0 hg1 hg2
        go_wp2_with ((with_reducible show wpList _ _ _ (⟨some 34, _, _, _, _, _⟩ :: _) _ _); refine wpList_append_list rfl (.tmp 27) (.tmp 33) _ rfl Try.underlying22 I0.out I1.out rfl I2.out (by decide) I3.out (by decide) rfl ((owns_below O.out B2.out).alloc _) (m := 1) rfl (news := [.int .i64 sid, .int .i64 spt, .slice A2 m c2]) rfl (fun h => by cases h) (fun a ha j u hj => by cases ha; rw [Addr.add_lit, Nat.zero_add, World.cell?_alloc_new]; simpa using hj) (by simp [Value.oneCell']) (by omega) (by have := HB.out.size; have := B2.out.size; simp; omega) ?_; intro v4 w4 hown4 hgrow4)
        have B3 : Hid (Below w.heap.size w (w2.alloc (.cells #[.int .i64 sid, .int .i64 spt, .slice A2 m c2] 33))) := Lib.hid ((HB.out.trans (B2.out.mono HB.out.size)).alloc (Nat.le_trans HB.out.size B2.out.size) _)
        have S4 : Hid (SectsOwn w4 w.heap.size v4 (l.take i ++ [(sid, spt, es)])) := Lib.hid (sects_snoc LL.out O.out YL.out YS.out (by unfold maxLen; omega) YR.out HB.out.size B2.out O2.out hown4 hgrow4)
        have B4 := Lib.hid (B3.out.grown hgrow4 B3.out.size (own_ge O.out))
        clear hown4 hgrow4
        go_roundw
        case measure => simp [intOf]; omega
        case rel => exact ⟨i + 1, by omega, by go_num, by rw [HTS.out]; exact S4.out, B4.out⟩
      · have hlt' : ¬ ((i : Int) < n) := by omega
        have htk : l.take i = l := List.take_of_length_le (by have := HN.out; omega)
        rw [htk] at ho
        have HO := Lib.hid ho
        have hs7 := ho.slice
        rw [← HN.out] at hs7
        obtain ⟨A7, c7, rfl⟩ := hs7
        clear ho htk
        go_wp2_with fail
        have OI : Hid (SectsIn wr wr.heap.size (.slice A7 n c7) l) := Lib.hid HO.out.in_
        have HR := Lib.hid ((H.out.below secR_ HB.out).more secR_ HB.out.size)
        have BR := Lib.hid (Below.refl wr.heap.size wr)
        have LOW := Lib.hid HB.out.size
        have OW := Lib.hid OI.out
        have HW := Lib.hid HR.out
        obtain ⟨J, hJ⟩ : ∃ J, J = nextJ7 l id k := ⟨_, rfl⟩
        obtain ⟨jx, jy⟩ := J
        obtain ⟨S, hS⟩ : ∃ S, S = findS7 l id := ⟨_, rfl⟩
        obtain ⟨fid, fpt, es⟩ := S
        obtain ⟨m, hm⟩ : ∃ m, m = es.length := ⟨_, rfl⟩
        have HM := Lib.hid hm
        have HJ := Lib.hid hJ
        have HS := Lib.hid hS
        obtain ⟨E, hE⟩ : ∃ E, E = findE7 l id := ⟨_, rfl⟩
        have HE := Lib.hid hE
        obtain ⟨N, hN⟩ : ∃ N, N = nextE7 l id k := ⟨_, rfl⟩
        have HNE := Lib.hid hN
        clear hm hJ hS hE hN
        refine (hp.find _ l id wr OI.out).mono ?_
        rintro e w1 ⟨u, rfl, hu, b0⟩
        rw [← HE.out, ← HS.out]
        rw [← HS.out] at hu
        dsimp only at hu ⊢
        obtain ⟨A8, c8, rfl⟩ := hu.slice
        rw [← HM.out] at hu ⊢
        have b1 := Lib.hid b0
        have O1 := Lib.hid hu
        have LO1 := Lib.hid (Nat.le_refl wr.heap.size)
        clear hu b0
        have HR_1 := Lib.hid ((HR.out.below secR_ b1.out).more secR_ b1.out.size)
        clear HR
        have OI_1 := Lib.hid ((OI.out.below secR_ b1.out).more secR_ b1.out.size)
        clear OI
        have HB_1 := Lib.hid (HB.out.trans (b1.out.mono HB.out.size))
        clear HB
        have BR_1 := Lib.hid (BR.out.trans (b1.out.mono BR.out.size))
        clear BR
        have hy0 := heap_alloc_self w1 (.cells #[.int .i64 fid, .int .i64 fpt, .slice A8 m c8] 33)
        have hyb := below_new w1 (.cells #[.int .i64 fid, .int .i64 fpt, .slice A8 m c8] 33)
        obtain ⟨q1, hq⟩ : ∃ q1, q1 = w1.alloc (.cells #[.int .i64 fid, .int .i64 fpt, .slice A8 m c8] 33) := ⟨_, rfl⟩
        rw [← hq] at hy0 hyb
        go_upto_region 9 with fail
        rw [← hq]
        have b1q := Lib.hid hyb
        have HR_1q := Lib.hid ((HR_1.out.below secR_ b1q.out).more secR_ b1q.out.size)
        clear HR_1
        have OI_1q := Lib.hid ((OI_1.out.below secR_ b1q.out).more secR_ b1q.out.size)
        clear OI_1
        have HB_1q := Lib.hid (HB_1.out.trans (b1q.out.mono HB_1.out.size))
        clear HB_1
        have BR_1q := Lib.hid (BR_1.out.trans (b1q.out.mono BR_1.out.size))
        clear BR_1
        have O1_1q := Lib.hid (O1.out.below joinR b1q.out)
        clear O1
        have X9 := Lib.hid hy0
        have PX9 := Lib.hid (show w1.heap.size = w1.heap.size from rfl)
        obtain ⟨pX9, hpX9⟩ : ∃ p, p = w1.heap.size := ⟨_, rfl⟩
        have HPX9 := Lib.hid hpX9
        rw [← hpX9] at X9 ⊢
        clear hy0 hyb hq PX9 hpX9
        go_wp2_with fail
        refine (rfind7_any _ l id q1 HR_1q.out).mono ?_
        rintro e w2 ⟨u, rfl, hu, b0⟩
        rw [← HE.out, ← HS.out]
        rw [← HS.out] at hu
        dsimp only at hu ⊢
        obtain ⟨A9, c9, rfl⟩ := hu.slice
        rw [← HM.out] at hu ⊢
        have b2 := Lib.hid b0
        have O2 := Lib.hid hu
        have LO2 := Lib.hid (Nat.le_refl q1.heap.size)
        clear hu b0
        have HR_2 := Lib.hid ((HR_1q.out.below secR_ b2.out).more secR_ b2.out.size)
        clear HR_1q
        have OI_2 := Lib.hid ((OI_1q.out.below secR_ b2.out).more secR_ b2.out.size)
        clear OI_1q
        have HB_2 := Lib.hid (HB_1q.out.trans (b2.out.mono HB_1q.out.size))
        clear HB_1q
        have BR_2 := Lib.hid (BR_1q.out.trans (b2.out.mono BR_1q.out.size))
        clear BR_1q
        have O1_2 := Lib.hid (O1_1q.out.below joinR b2.out)
        clear O1_1q
        have X9_2 := Lib.hid ((b2.out.block _ (heap_lt X9.out)).trans X9.out)
        clear X9
        have hy0 := heap_alloc_self w2 (.cells #[.int .i64 fid, .int .i64 fpt, .slice A9 m c9] 33)
        have hyb := below_new w2 (.cells #[.int .i64 fid, .int .i64 fpt, .slice A9 m c9] 33)
        obtain ⟨q2, hq⟩ : ∃ q2, q2 = w2.alloc (.cells #[.int .i64 fid, .int .i64 fpt, .slice A9 m c9] 33) := ⟨_, rfl⟩
        rw [← hq] at hy0 hyb
        go_upto_region 10 with fail
        rw [← hq]
        have b2q := Lib.hid hyb
        have HR_2q := Lib.hid ((HR_2.out.below secR_ b2q.out).more secR_ b2q.out.size)
        clear HR_2
        have OI_2q := Lib.hid ((OI_2.out.below secR_ b2q.out).more secR_ b2q.out.size)
        clear OI_2
        have HB_2q := Lib.hid (HB_2.out.trans (b2q.out.mono HB_2.out.size))
        clear HB_2
        have BR_2q := Lib.hid (BR_2.out.trans (b2q.out.mono BR_2.out.size))
        clear BR_2
        have O1_2q := Lib.hid (O1_2.out.below joinR b2q.out)
        clear O1_2
        have X9_2q := Lib.hid ((b2q.out.block _ (heap_lt X9_2.out)).trans X9_2.out)
        clear X9_2
        have O2_2q := Lib.hid (O2.out.below joinR b2q.out)
        clear O2
        have X11 := Lib.hid hy0
        have PX11 := Lib.hid (show w2.heap.size = w2.heap.size from rfl)
        obtain ⟨pX11, hpX11⟩ : ∃ p, p = w2.heap.size := ⟨_, rfl⟩
        have HPX11 := Lib.hid hpX11
        rw [← hpX11] at X11 ⊢
        clear hy0 hyb hq PX11 hpX11
        go_wp2_with fail
        refine (hp.next _ l id k q2 OI_2q.out).mono ?_
        rintro e w3 ⟨rfl, b0⟩
        rw [← HNE.out, ← HJ.out]
        dsimp only
        have b3 := Lib.hid b0
        clear b0
        have HR_3 := Lib.hid ((HR_2q.out.below secR_ b3.out).more secR_ b3.out.size)
        clear HR_2q
        have OI_3 := Lib.hid ((OI_2q.out.below secR_ b3.out).more secR_ b3.out.size)
        clear OI_2q
        have HB_3 := Lib.hid (HB_2q.out.trans (b3.out.mono HB_2q.out.size))
        clear HB_2q
        have BR_3 := Lib.hid (BR_2q.out.trans (b3.out.mono BR_2q.out.size))
        clear BR_2q
        have O1_3 := Lib.hid (O1_2q.out.below joinR b3.out)
        clear O1_2q
        have X9_3 := Lib.hid ((b3.out.block _ (heap_lt X9_2q.out)).trans X9_2q.out)
        clear X9_2q
        have O2_3 := Lib.hid (O2_2q.out.below joinR b3.out)
        clear O2_2q
        have X11_3 := Lib.hid ((b3.out.block _ (heap_lt X11.out)).trans X11.out)
        clear X11
        have hy0 := heap_alloc_self w3 (.cells #[.int .i64 jx, .int .i64 jy] 25)
        have hyb := below_new w3 (.cells #[.int .i64 jx, .int .i64 jy] 25)
        obtain ⟨q3, hq⟩ : ∃ q3, q3 = w3.alloc (.cells #[.int .i64 jx, .int .i64 jy] 25) := ⟨_, rfl⟩
        rw [← hq] at hy0 hyb
        go_upto_region 11 with fail
        rw [← hq]
        have b3q := Lib.hid hyb
        have HR_3q := Lib.hid ((HR_3.out.below secR_ b3q.out).more secR_ b3q.out.size)
        clear HR_3
        have OI_3q := Lib.hid ((OI_3.out.below secR_ b3q.out).more secR_ b3q.out.size)
        clear OI_3
        have HB_3q := Lib.hid (HB_3.out.trans (b3q.out.mono HB_3.out.size))
        clear HB_3
        have BR_3q := Lib.hid (BR_3.out.trans (b3q.out.mono BR_3.out.size))
        clear BR_3
        have O1_3q := Lib.hid (O1_3.out.below joinR b3q.out)
        clear O1_3
        have X9_3q := Lib.hid ((b3q.out.block _ (heap_lt X9_3.out)).trans X9_3.out)
        clear X9_3
        have O2_3q := Lib.hid (O2_3.out.below joinR b3q.out)
        clear O2_3
        have X11_3q := Lib.hid ((b3q.out.block _ (heap_lt X11_3.out)).trans X11_3.out)
        clear X11_3
        have X13 := Lib.hid hy0
        have PX13 := Lib.hid (show w3.heap.size = w3.heap.size from rfl)
        obtain ⟨pX13, hpX13⟩ : ∃ p, p = w3.heap.size := ⟨_, rfl⟩
        have HPX13 := Lib.hid hpX13
        rw [← hpX13] at X13 ⊢
        clear hy0 hyb hq PX13 hpX13
        go_wp2_with fail
        refine (rnext7_any _ l id k q3 HR_3q.out).mono ?_
        rintro e w4 ⟨rfl, b0⟩
        rw [← HNE.out, ← HJ.out]
        dsimp only
        have b4 := Lib.hid b0
        clear b0
        have HR_4 := Lib.hid ((HR_3q.out.below secR_ b4.out).more secR_ b4.out.size)
        clear HR_3q
        have OI_4 := Lib.hid ((OI_3q.out.below secR_ b4.out).more secR_ b4.out.size)
        clear OI_3q
        have HB_4 := Lib.hid (HB_3q.out.trans (b4.out.mono HB_3q.out.size))
        clear HB_3q
        have BR_4 := Lib.hid (BR_3q.out.trans (b4.out.mono BR_3q.out.size))
        clear BR_3q
        have O1_4 := Lib.hid (O1_3q.out.below joinR b4.out)
        clear O1_3q
        have X9_4 := Lib.hid ((b4.out.block _ (heap_lt X9_3q.out)).trans X9_3q.out)
        clear X9_3q
        have O2_4 := Lib.hid (O2_3q.out.below joinR b4.out)
        clear O2_3q
        have X11_4 := Lib.hid ((b4.out.block _ (heap_lt X11_3q.out)).trans X11_3q.out)
        clear X11_3q
        have X13_4 := Lib.hid ((b4.out.block _ (heap_lt X13.out)).trans X13.out)
        clear X13
        have hy0 := heap_alloc_self w4 (.cells #[.int .i64 jx, .int .i64 jy] 25)
        have hyb := below_new w4 (.cells #[.int .i64 jx, .int .i64 jy] 25)
        obtain ⟨q4, hq⟩ : ∃ q4, q4 = w4.alloc (.cells #[.int .i64 jx, .int .i64 jy] 25) := ⟨_, rfl⟩
        rw [← hq] at hy0 hyb
        go_upto_region 12 with fail
        rw [← hq]
        have b4q := Lib.hid hyb
        have HR_4q := Lib.hid ((HR_4.out.below secR_ b4q.out).more secR_ b4q.out.size)
        clear HR_4
        have OI_4q := Lib.hid ((OI_4.out.below secR_ b4q.out).more secR_ b4q.out.size)
        clear OI_4
        have HB_4q := Lib.hid (HB_4.out.trans (b4q.out.mono HB_4.out.size))
        clear HB_4
        have BR_4q := Lib.hid (BR_4.out.trans (b4q.out.mono BR_4.out.size))
        clear BR_4
        have O1_4q := Lib.hid (O1_4.out.below joinR b4q.out)
        clear O1_4
        have X9_4q := Lib.hid ((b4q.out.block _ (heap_lt X9_4.out)).trans X9_4.out)
        clear X9_4
        have O2_4q := Lib.hid (O2_4.out.below joinR b4q.out)
        clear O2_4
        have X11_4q := Lib.hid ((b4q.out.block _ (heap_lt X11_4.out)).trans X11_4.out)
        clear X11_4
        have X13_4q := Lib.hid ((b4q.out.block _ (heap_lt X13_4.out)).trans X13_4.out)
        clear X13_4
        have X15 := Lib.hid hy0
        have PX15 := Lib.hid (show w4.heap.size = w4.heap.size from rfl)
        obtain ⟨pX15, hpX15⟩ : ∃ p, p = w4.heap.size := ⟨_, rfl⟩
        have HPX15 := Lib.hid hpX15
        rw [← hpX15] at X15 ⊢
        clear hy0 hyb hq PX15 hpX15
        go_wp2_with fail
        refine (hp.check _ l q4 OI_4q.out).mono ?_
        rintro e w5 ⟨rfl, b0⟩
        have b5 := Lib.hid b0
        clear b0
        have HR_5 := Lib.hid ((HR_4q.out.below secR_ b5.out).more secR_ b5.out.size)
        clear HR_4q
        have OI_5 := Lib.hid ((OI_4q.out.below secR_ b5.out).more secR_ b5.out.size)
        clear OI_4q
        have HB_5 := Lib.hid (HB_4q.out.trans (b5.out.mono HB_4q.out.size))
        clear HB_4q
        have BR_5 := Lib.hid (BR_4q.out.trans (b5.out.mono BR_4q.out.size))
        clear BR_4q
        have O1_5 := Lib.hid (O1_4q.out.below joinR b5.out)
        clear O1_4q
        have X9_5 := Lib.hid ((b5.out.block _ (heap_lt X9_4q.out)).trans X9_4q.out)
        clear X9_4q
        have O2_5 := Lib.hid (O2_4q.out.below joinR b5.out)
        clear O2_4q
        have X11_5 := Lib.hid ((b5.out.block _ (heap_lt X11_4q.out)).trans X11_4q.out)
        clear X11_4q
        have X13_5 := Lib.hid ((b5.out.block _ (heap_lt X13_4q.out)).trans X13_4q.out)
        clear X13_4q
        have X15_5 := Lib.hid ((b5.out.block _ (heap_lt X15.out)).trans X15.out)
        clear X15
        go_wp2_with fail
        refine (rcheck7_any _ l w5 HR_5.out).mono ?_
        rintro e w6 ⟨rfl, b0⟩
        have b6 := Lib.hid b0
        clear b0
        have HR_6 := Lib.hid ((HR_5.out.below secR_ b6.out).more secR_ b6.out.size)
        clear HR_5
        have OI_6 := Lib.hid ((OI_5.out.below secR_ b6.out).more secR_ b6.out.size)
        clear OI_5
        have HB_6 := Lib.hid (HB_5.out.trans (b6.out.mono HB_5.out.size))
        clear HB_5
        have BR_6 := Lib.hid (BR_5.out.trans (b6.out.mono BR_5.out.size))
        clear BR_5
        have O1_6 := Lib.hid (O1_5.out.below joinR b6.out)
        clear O1_5
        have X9_6 := Lib.hid ((b6.out.block _ (heap_lt X9_5.out)).trans X9_5.out)
        clear X9_5
        have O2_6 := Lib.hid (O2_5.out.below joinR b6.out)
        clear O2_5
        have X11_6 := Lib.hid ((b6.out.block _ (heap_lt X11_5.out)).trans X11_5.out)
        clear X11_5
        have X13_6 := Lib.hid ((b6.out.block _ (heap_lt X13_5.out)).trans X13_5.out)
        clear X13_5
        have X15_6 := Lib.hid ((b6.out.block _ (heap_lt X15_5.out)).trans X15_5.out)
        clear X15_5
        obtain ⟨k0, k1, k2⟩ := cell3_of X9_6.out
        obtain ⟨m0, m1, m2⟩ := cell3_of X11_6.out
        go_wp2_with fail
        have V1 : Hid (SecV w6 w6.heap.size (.agg #[.int .i64 fid, .int .i64 fpt, .slice A8 m c8]) (fid, fpt, es)) := Lib.hid (JoinsOwn.sec O1_6.out)
        have V2 : Hid (SecV w6 w6.heap.size (.agg #[.int .i64 fid, .int .i64 fpt, .slice A9 m c9]) (fid, fpt, es)) := Lib.hid (JoinsOwn.sec O2_6.out)
        clear k0 k1 k2 m0 m1 m2
        refine (rsamesec_any _ _ (fid, fpt, es) w6 V1.out V2.out).mono ?_
        rintro e w7 ⟨rfl, b0⟩
        have b7 := Lib.hid b0
        clear b0
        have HR_7 := Lib.hid ((HR_6.out.below secR_ b7.out).more secR_ b7.out.size)
        clear HR_6
        have OI_7 := Lib.hid ((OI_6.out.below secR_ b7.out).more secR_ b7.out.size)
        clear OI_6
        have HB_7 := Lib.hid (HB_6.out.trans (b7.out.mono HB_6.out.size))
        clear HB_6
        have BR_7 := Lib.hid (BR_6.out.trans (b7.out.mono BR_6.out.size))
        clear BR_6
        have O1_7 := Lib.hid (O1_6.out.below joinR b7.out)
        clear O1_6
        have X9_7 := Lib.hid ((b7.out.block _ (heap_lt X9_6.out)).trans X9_6.out)
        clear X9_6
        have O2_7 := Lib.hid (O2_6.out.below joinR b7.out)
        clear O2_6
        have X11_7 := Lib.hid ((b7.out.block _ (heap_lt X11_6.out)).trans X11_6.out)
        clear X11_6
        have X13_7 := Lib.hid ((b7.out.block _ (heap_lt X13_6.out)).trans X13_6.out)
        clear X13_6
        have X15_7 := Lib.hid ((b7.out.block _ (heap_lt X15_6.out)).trans X15_6.out)
        clear X15_6
        obtain ⟨k0, k1⟩ := cell2_of X13_7.out
        obtain ⟨m0, m1⟩ := cell2_of X15_7.out
        go_wp2_with fail
        have HMX : Hid (m ≤ 9223372036854775807) := Lib.hid (by obtain ⟨_, _, _, h3, _⟩ := O1_7.out; rw [HM.out]; unfold maxLen at h3; omega)
        have TR := Lib.hid (toRow_of O1_7.out HM.out.symm)
        have X9w := Lib.hid X9_7.out
        have BRw := Lib.hid BR_7.out
        have HBw := Lib.hid HB_7.out
        have PGE : Hid (wr.heap.size ≤ pX9) := Lib.hid (by rw [HPX9.out]; exact b1.out.size)
        clear k0 k1 m0 m1
        go_loopw [18] (fun s18 wy => ∃ i : Nat, i ≤ m ∧ s18 = .int .i64 i ∧ ToRow wy wr.heap.size m A8 ∧ wy.heap[pX9]? = some (.cells #[.int .i64 fid, .int .i64 fpt, .slice A8 m c8] 33 (0, 0)) ∧ Below wr.heap.size wr wy ∧ Below w.heap.size w wy) (fun s18 _ => m - (intOf s18).toNat)
        case atStart => exact ⟨0, by omega, rfl, TR.out, X9w.out, BRw.out, HBw.out⟩
        case round =>
          obtain ⟨i, hi, rfl, htr, hx, hbr, hb⟩ := hrel
          have X := Lib.hid hx
          have BB := Lib.hid hbr
          have BC := Lib.hid hb
          obtain ⟨k0, k1, k2⟩ := cell3_of hx
          clear hx hbr hb
          by_cases hlt : i < m
          · have hlt' : (i : Int) < m := by omega
            rcases htr with h0 | ⟨g, cur, rfl, hlo, hc, hz⟩
            · omega
            · obtain ⟨z, hzi⟩ := hz i hlt
              have hcell : wr.cell? ⟨g, i * 2, none⟩ = some (.int .i64 z) := by rw [cell_of_row _ _ _ _ _ _ hc]; exact hzi
              have hfr := frozen2_of hc (i * 2)
              have HC := Lib.hid hc
              have HZ := Lib.hid hz
              have HLO := Lib.hid hlo
              have hmm := HMX.out
              clear hc hz hzi
              go_wp2_with fail
              have HNG : Hid (pX9 ≠ g) := Lib.hid (fun e => by subst e; have h1 := X.out; rw [HC.out] at h1; cases h1)
              go_roundw
              case measure => simp [intOf]; omega
              case rel => exact ⟨i + 1, by omega, by go_num, toRow_set HLO.out HC.out HZ.out _, (heap_setFar wr g (i * 2) pX9 _ HNG.out).trans X.out, below_set BB.out HLO.out _ _, below_set BC.out (Nat.le_trans LOW.out HLO.out) _ _⟩
          · have hlt' : ¬ ((i : Int) < m) := by omega
            go_wp2_with fail
            refine (rsameall_any _ _ l wr ((OW.out.below secR_ BB.out).more secR_ BB.out.size) ((HW.out.below secR_ BB.out).more secR_ BB.out.size)).mono ?_
            rintro e w9 ⟨rfl, b9⟩
            have B9 := Lib.hid (BC.out.trans (b9.mono BC.out.size))
            clear b9
            go_wp2_with fail
            go_ret
            exact ⟨rfl, B9.out⟩
end Go.Proofs.Ytnhglgpmmipjaaa
