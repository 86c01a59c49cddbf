/-
  Copies of lists of sectors and of writes, as the program makes them.
  Conditions: at most 1,000 sectors and writes, none of more than 1,000,000 bytes.
-/
import Derived.Test.YtdjoflhcagfmiaaDevTwin
set_option linter.unusedVariables false
set_option linter.unusedSimpArgs false
set_option maxRecDepth 100000
namespace Go.Proofs.Ytdjoflhcagfmiaa
open Go.RowKit

set_option maxHeartbeats 1000000 in
theorem copied_secs (v : Value) (ss : List Bs) (w : World) {B : Nat} (hB : B ≤ w.heap.size) (h : SecsIn w B v ss) (hn : ss.length ≤ 1000) (hs : ∀ s ∈ ss, s.length ≤ 1000000) :
    Calls Try.prog 71 #[v, .func (.func 48) #[] #[]] w fun e w' => ∃ y, e = .returned y ∧ SecsAt w' w.heap.size y ss ∧ Below w.heap.size w w' := by
  have H := Lib.hid h
  have HS := Lib.hid hs
  obtain ⟨A, cap, rfl, -, -, -, -⟩ := h
  obtain ⟨n, hnn⟩ : ∃ n, n = ss.length := ⟨_, rfl⟩
  have hmk := made_secs n (by omega)
  obtain ⟨o, hmk, hm⟩ := hmk w
  obtain ⟨i0, hi, hz0, hz1, hz2⟩ := info_parts infoSlice
  have I0 := Lib.hid hi
  have I1 := Lib.hid hz0
  have I2 := Lib.hid hz1
  have I3 := Lib.hid hz2
  have M := Lib.hid hm
  have HN := Lib.hid hn
  have HNN := Lib.hid hnn
  have hn3 : n ≤ 1000 := by omega
  have HB0 := Lib.hid (below_new w o)
  rw [← hnn] at H ⊢
  clear hi hz0 hz1 hz2 hs hm hn hnn
  go_enter Try.func71, Try.ntmps71
  go_wp2_with fail
  generalize w.alloc o = w1 at HB0 M ⊢
  clear hmk
  go_loopw [5, 13] (fun s5 s13 wr => ∃ i : Nat, i ≤ n ∧ s13 = .int .i64 i ∧ SecsAt wr w.heap.size s5 (ss.take i) ∧ Below w.heap.size w wr) (fun _ s13 _ => n - (intOf s13).toNat)
  case atStart => exact ⟨0, by omega, rfl, ⟨[], M.out, rfl, by simp, fun j y s h => by simp at h, fun i j y z b h => by simp at h⟩, HB0.out⟩
  case round =>
    obtain ⟨i, hi, rfl, ho, hb⟩ := hrel
    have HB := Lib.hid hb
    clear hb
    by_cases hlt : i < n
    · have hlt' : (i : Int) < n := by omega
      have hls : i < ss.length := by have := HNN.out; omega
      obtain ⟨b, off, u, rfl, hbb, hc, ht⟩ := (H.out.below (HB.out.mono hB)).at hls
      have HT := Lib.hid ht
      have hts : ss.take (i + 1) = ss.take i ++ [ss[i]] := by rw [List.take_add_one, List.getElem?_eq_getElem hls]; rfl
      have HTS := Lib.hid hts
      have HSI := Lib.hid (HS.out _ (List.getElem_mem hls))
      have hlen : (ss.take i).length = i := by rw [List.length_take]; omega
      obtain ⟨ys, hown, hyl, hm, he, hd⟩ := ho
      rw [hlen] at hown
      have O := Lib.hid hown
      have YL := Lib.hid hyl
      have E := Lib.hid he
      have D := Lib.hid hd
      have LL := Lib.hid hlen
      obtain ⟨A5, c5, rfl⟩ := own_slice_ hown
      clear ht hts hyl he hd hlen hown hm
      go_wp2_with (first | ((with_reducible show wpList _ _ _ (⟨some 22, _, _, _, _, _⟩ :: _) _ _); refine wpList_append_any rfl (.tmp 17) (.tmp 21) _ rfl Try.underlying26 I0.out I1.out rfl I2.out (by decide) I3.out (by decide) rfl ((owns_below O.out B2.out).alloc _) (m := 1) rfl (news := [.slice A9 ss[i].length c9]) rfl (fun j u hj => by rw [World.cell?_alloc_new]; simpa using hj) (by simp [Value.oneCell']) (by have := HN.out; omega) (by have := HB.out.size; have := B2.out.size; simp; omega) ?_; intro v4 w4 hown4 hgrow4) | (refine (clone_any _ _ _ (Nat.le_trans hB HB.out.size) HT.out (by have := HSI.out; omega)).mono ?_; rintro e w2 ⟨y, rfl, hoy, b2⟩; obtain ⟨A9, c9, rfl⟩ := own_slice_ hoy; have OY := Lib.hid hoy; have B2 := Lib.hid b2; clear hoy b2))
      have B3 : Hid (Below w.heap.size w (w2.alloc (.cells #[.slice A9 ss[i].length c9] 34))) := Lib.hid ((HB.out.trans (B2.out.mono HB.out.size)).alloc (Nat.le_trans HB.out.size B2.out.size) _)
      have S4 : Hid (SecsAt w4 w.heap.size v4 (ss.take i ++ [ss[i]])) := Lib.hid (secs_snoc (by rw [LL.out]; exact O.out) YL.out E.out D.out HB.out.size B2.out OY.out (by have := HSI.out; unfold maxLen; omega) (by rw [LL.out]; have := HN.out; unfold maxLen; omega) (by rw [LL.out]; exact hown4) hgrow4)
      have B4 := Lib.hid (B3.out.grown hgrow4 B3.out.size (own_ge O.out))
      clear hown4 hgrow4 O YL E D OY
      go_roundw
      case measure => simp [intOf]; omega
      case rel => exact ⟨i + 1, by omega, by go_num, by rw [HTS.out]; exact S4.out, B4.out⟩
    · have hlt' : ¬ ((i : Int) < n) := by omega
      have hss : ss.take i = ss := List.take_of_length_le (by have := HNN.out; omega)
      rw [hss] at ho
      have HO := Lib.hid ho
      clear ho hss
      go_wp2_with fail
      go_ret
      exact ⟨_, rfl, HO.out, HB.out⟩
theorem own_slice2_ {w : World} {base e size n : Nat} {v : Value} {ys : List Value} (h : w.ownsRow base e size v n ys) : ∃ A c, v = .slice A n c := by
  rcases h.2 with ⟨rfl, rfl⟩ | ⟨g, cap, cur, rfl, _⟩
  · exact ⟨none, 0, rfl⟩
  · exact ⟨_, _, rfl⟩

set_option maxHeartbeats 1000000 in
theorem copied_wts (v : Value) (ws : List Wr) (w : World) {B : Nat} (hB : B ≤ w.heap.size) (h : WtsIn w B v ws) (hn : ws.length ≤ 1000) (hs : ∀ s ∈ ws, s.2.length ≤ 1000000) :
    Calls Try.prog 72 #[v, .func (.func 73) #[] #[]] w fun e w' => ∃ y, e = .returned y ∧ WtsAt w' w.heap.size y ws ∧ Below w.heap.size w w' := by
  have H := Lib.hid h
  have HS := Lib.hid hs
  obtain ⟨A, cap, rfl, -, -, -, -⟩ := h
  obtain ⟨n, hnn⟩ : ∃ n, n = ws.length := ⟨_, rfl⟩
  have hmk := made_wts n (by omega)
  obtain ⟨o, hmk, hm⟩ := hmk w
  obtain ⟨i0, hi, hz0, hz1, hz2⟩ := info_parts infoWrite
  have I0 := Lib.hid hi
  have I1 := Lib.hid hz0
  have I2 := Lib.hid hz1
  have I3 := Lib.hid hz2
  have M := Lib.hid hm
  have HN := Lib.hid hn
  have HNN := Lib.hid hnn
  have hn3 : n ≤ 1000 := by omega
  have HB0 := Lib.hid (below_new w o)
  rw [← hnn] at H ⊢
  clear hi hz0 hz1 hz2 hs hm hn hnn
  go_enter Try.func72, Try.ntmps72
  go_wp2_with fail
  generalize w.alloc o = w1 at HB0 M ⊢
  clear hmk
  go_loopw [5, 13] (fun s5 s13 wr => ∃ i : Nat, i ≤ n ∧ s13 = .int .i64 i ∧ WtsAt wr w.heap.size s5 (ws.take i) ∧ Below w.heap.size w wr) (fun _ s13 _ => n - (intOf s13).toNat)
  case atStart => exact ⟨0, by omega, rfl, ⟨[], M.out, rfl, by simp, fun j y s h => by simp at h⟩, HB0.out⟩
  case round =>
    obtain ⟨i, hi, rfl, ho, hb⟩ := hrel
    have HB := Lib.hid hb
    clear hb
    by_cases hlt : i < n
    · have hlt' : (i : Int) < n := by omega
      have hls : i < ws.length := by have := HNN.out; omega
      obtain ⟨b, off, u, rfl, hbb, hc0, hc, ht⟩ := (H.out.below (HB.out.mono hB)).at hls
      have HT := Lib.hid ht
      obtain ⟨A3, c3, rfl, -, -, -, -⟩ := id ht
      have hts : ws.take (i + 1) = ws.take i ++ [ws[i]] := by rw [List.take_add_one, List.getElem?_eq_getElem hls]; rfl
      have HTS := Lib.hid hts
      have HSI := Lib.hid (HS.out _ (List.getElem_mem hls))
      have hlen : (ws.take i).length = i := by rw [List.length_take]; omega
      obtain ⟨ys, hown, hyl, hm, he⟩ := ho
      rw [hlen] at hown
      have O := Lib.hid hown
      have YL := Lib.hid hyl
      have E := Lib.hid he
      have LL := Lib.hid hlen
      obtain ⟨A5, c5, rfl⟩ := own_slice2_ hown
      clear ht hts hyl he hlen hown hm
      go_wp2_with (first | ((with_reducible show wpList _ _ _ (⟨some 22, _, _, _, _, _⟩ :: _) _ _); refine wpList_append_any rfl (.tmp 17) (.tmp 21) _ rfl Try.underlying27 I0.out I1.out rfl I2.out (by decide) I3.out (by decide) rfl ((owns_below (O.out.alloc _) B2.out).alloc _) (m := 1) rfl (news := [.int .i64 ws[i].1, .slice A9 ws[i].2.length c9]) rfl (fun j u hj => by rw [World.cell?_alloc_new]; simpa using hj) (by simp [Value.oneCell']) (by have := HN.out; omega) (by have := HB.out.size; have := B2.out.size; simp at this ⊢; omega) ?_; intro v4 w4 hown4 hgrow4) | (refine (twinWrite_any _ ws[i] _ (Nat.le_trans hB (HB.out.alloc HB.out.size _).size) ⟨_, rfl, HT.out.below ((Below.refl _ _).alloc (Nat.le_trans hB HB.out.size) _)⟩ (by have := HSI.out; omega)).mono ?_; rintro e w2 ⟨y, rfl, hoy, b2⟩; obtain ⟨A9, c9, rfl⟩ := own_slice_ hoy; have OY := Lib.hid hoy; have B2 := Lib.hid b2; clear hoy b2))
      have B2' := Lib.hid ((below_new wr (.cells #[.int .i64 ws[i].1, .slice A3 ws[i].2.length c3] 52)).trans (B2.out.mono (by simp)))
      have OY' := Lib.hid (owns_mono OY.out (show wr.heap.size ≤ _ by simp))
      have B3 : Hid (Below w.heap.size w (w2.alloc (.cells #[.int .i64 ws[i].1, .slice A9 ws[i].2.length c9] 52))) := Lib.hid ((HB.out.trans (B2'.out.mono HB.out.size)).alloc (Nat.le_trans HB.out.size B2'.out.size) _)
      have S4 : Hid (WtsAt w4 w.heap.size v4 (ws.take i ++ [ws[i]])) := Lib.hid (wts_snoc (by rw [LL.out]; exact O.out) YL.out E.out HB.out.size B2'.out OY'.out (by have := HSI.out; unfold maxLen; omega) (by rw [LL.out]; have := HN.out; unfold maxLen; omega) (by rw [LL.out]; exact hown4) hgrow4)
      have B4 := Lib.hid (B3.out.grown hgrow4 B3.out.size (own_ge O.out))
      clear hown4 hgrow4 O YL E OY
      go_roundw
      case measure => simp [intOf]; omega
      case rel => exact ⟨i + 1, by omega, by go_num, by rw [HTS.out]; exact S4.out, B4.out⟩
    · have hlt' : ¬ ((i : Int) < n) := by omega
      have hss : ws.take i = ws := List.take_of_length_le (by have := HNN.out; omega)
      rw [hss] at ho
      have HO := Lib.hid ho
      clear ho hss
      go_wp2_with fail
      go_ret
      exact ⟨_, rfl, HO.out, HB.out⟩
end Go.Proofs.Ytdjoflhcagfmiaa
