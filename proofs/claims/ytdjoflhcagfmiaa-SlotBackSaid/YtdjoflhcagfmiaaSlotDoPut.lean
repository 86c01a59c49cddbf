/-
  What the program's Put answers: the disk on which a record's sectors wait, or an error.
  Conditions: none.
-/
import Derived.Test.YtdjoflhcagfmiaaSlotPutM
import Derived.Test.YtdjoflhcagfmiaaSlotWhole
import Derived.Test.YtdjoflhcagfmiaaSlotFind
set_option linter.unusedVariables false
set_option linter.unusedSimpArgs false
set_option maxRecDepth 100000
namespace Go.Proofs.Ytdjoflhcagfmiaa
open Go.RowKit

theorem secs_any {W : World} {lo : Nat} {v : Value} {ss : List Bs} (h : SecsAt W lo v ss) : ∃ A n c, v = .slice A n c := by
  obtain ⟨A, c, h⟩ := secs_slice h
  exact ⟨_, _, _, h⟩
theorem wts_any {W : World} {lo : Nat} {v : Value} {ws : List Wr} (h : WtsAt W lo v ws) : ∃ A n c, v = .slice A n c := by
  obtain ⟨A, c, h⟩ := wts_slice h
  exact ⟨_, _, _, h⟩
abbrev bytesV (l : Bs) : List Value := l.map u8
theorem disk_turned {W W' : World} {lo g : Nat} {d : Value} {ss : List Bs} {ws : List Wr} {cur : Array Value} {e : TypeId} (h : DiskAt W lo d ss ws) (hc : W.heap[g]? = some (.cells cur e (0, 0))) (h1 : 34 ≠ e) (h2 : 5 ≠ e) (h3 : 52 ≠ e) (hg : W.grownBy W' (some g)) : DiskAt W' lo d ss ws := by
  obtain ⟨v1, v2, rfl, hs, hw⟩ := h
  exact ⟨v1, v2, rfl, secs_turnedRow hs hc h1 h2 hg, wts_turnedRow hw hc h3 h2 hg⟩

set_option maxHeartbeats 8000000 in
theorem sput_any (d tv : Value) (ss : List Bs) (ws : List Wr) (g : Nat) (t : Bs) (hg : g < 4294967296) (w : World) (h : DiskIn w w.heap.size d ss ws) (ht : Txt w w.heap.size tv t) :
    Calls Try.prog 11 #[d, .agg #[.int .u32 (g : Int), tv]] w fun e w' => ∃ d', e = .returned (.tuple #[d', .int .i64 (putE ss ws g t)]) ∧ DiskAt w' w.heap.size d' (putS ss ws g t) (putW ss ws g t) ∧ Below w.heap.size w w' := by
  obtain ⟨v1, v2, rfl, h1, h2⟩ := id h
  have H := Lib.hid h
  have X := Lib.hid ht
  have HG := Lib.hid hg
  obtain ⟨A3, c3, rfl, -, -, -, -⟩ := ht
  obtain ⟨q, hq, q0, q1, q2, qs, qb⟩ := boxes3 w (.cells #[v1, v2] 29) (.cells #[.int .u32 (g : Int), .slice A3 t.length c3] 36) (.cells #[.slice none 0 0, .slice none 0 0] 29)
  have QB := Lib.hid qb
  have QS := Lib.hid qs
  clear h1 h2 h hg qb qs
  go_enter Try.func11, Try.ntmps11
  go_wp2_with fail
  rw [← hq]
  clear hq
  refine (check_any _ ss ws q ((H.out.below QB.out).more QB.out.size)).mono ?_
  rintro e w1 ⟨rfl, b1⟩
  have B1 := Lib.hid (QB.out.trans (b1.mono QB.out.size))
  have C0 := Lib.hid ((b1.block _ (heap_lt q0)).trans q0)
  have C1 := Lib.hid ((b1.block _ (heap_lt q1)).trans q1)
  have C2 := Lib.hid ((b1.block _ (heap_lt q2)).trans q2)
  have L1 : Hid (w.heap.size + 3 ≤ w1.heap.size) := Lib.hid (by have := b1.size; have := QS.out; omega)
  clear q0 q1 q2 b1
  obtain ⟨k0, k1⟩ := cell2_of C0.out
  obtain ⟨m0, m1⟩ := cell2_of C1.out
  obtain ⟨r0, r1⟩ := cell2_of C2.out
  have f0 := frozen2_of C2.out 0
  have f1 := frozen2_of C2.out 1
  have BAD : Hid (∀ (r : Int) (u : World), u.heap[w.heap.size + 1 + 1]? = some (.cells #[.slice none 0 0, .slice none 0 0] 29 (0, 0)) → Below w.heap.size w u → putE ss ws g t = r → r ≠ 0 →
      ∃ d', Ending.returned (.tuple #[.agg #[.slice none 0 0, .slice none 0 0], .int .i64 r]) = .returned (.tuple #[d', .int .i64 (putE ss ws g t)]) ∧ DiskAt ((u.setCell ⟨w.heap.size + 1 + 1, 0, none⟩ (.slice none 0 0)).setCell ⟨w.heap.size + 1 + 1, 1, none⟩ (.slice none 0 0)) w.heap.size d' (putS ss ws g t) (putW ss ws g t) ∧ Below w.heap.size w ((u.setCell ⟨w.heap.size + 1 + 1, 0, none⟩ (.slice none 0 0)).setCell ⟨w.heap.size + 1 + 1, 1, none⟩ (.slice none 0 0))) :=
    Lib.hid (fun r u _ hb h h0 => ⟨_, by rw [h], by rw [putS, putW, h, if_neg h0, if_neg h0]; exact DiskAt.nil_ _ _, below_set2 hb (by omega) _ _⟩)
  cases hm : mayB ss ws with
  | false =>
    have hE : putE ss ws g t = 8 := by rw [putE, hm]; rfl
    have HE := Lib.hid hE
    simp only [Bool.false_eq_true, ↓reduceIte]
    clear hm hE
    go_wp2_with fail
    exact bodyPost_ret (results_2_tmp rfl _ _ (w.heap.size + 1 + 1) rfl (zero_kept C2.out) Try.underlying29 infoDisk2 (.int .i64 8) rfl) rfl (BAD.out 8 w1 C2.out B1.out HE.out (by decide))
  | true =>
    have hM := mayB_iff.1 hm
    have HM := Lib.hid hM
    have HMB := Lib.hid hm
    simp only [↓reduceIte]
    clear hm hM
    by_cases hg0 : g = 0
    · have hE : putE ss ws g t = 2 := by rw [putE, HMB.out, if_pos rfl, if_pos hg0]
      have HE := Lib.hid hE
      have hg0' : (g : Int) = 0 := by omega
      clear hE
      go_wp2_with fail
      exact bodyPost_ret (results_2_tmp rfl _ _ (w.heap.size + 1 + 1) rfl (zero_kept C2.out) Try.underlying29 infoDisk2 (.int .i64 2) rfl) rfl (BAD.out 2 w1 C2.out B1.out HE.out (by decide))
    · have hg0' : ¬ (g : Int) = 0 := by omega
      by_cases hl : 1882 < t.length
      · have hE : putE ss ws g t = 3 := by rw [putE, HMB.out, if_pos rfl, if_neg hg0, if_pos hl]
        have HE := Lib.hid hE
        have hl' : (1882 : Int) < t.length := by omega
        clear hE
        go_wp2_with fail
        exact bodyPost_ret (results_2_tmp rfl _ _ (w.heap.size + 1 + 1) rfl (zero_kept C2.out) Try.underlying29 infoDisk2 (.int .i64 3) rfl) rfl (BAD.out 3 w1 C2.out B1.out HE.out (by decide))
      · have hl' : ¬ (1882 : Int) < t.length := by omega
        have hE : putE ss ws g t = if 256 < ws.length + cntR t then 9 else 0 := by rw [putE, HMB.out, if_pos rfl, if_neg hg0, if_neg hl]
        have HE := Lib.hid hE
        have HL : Hid (t.length ≤ 1882) := Lib.hid (by omega)
        clear hE
        go_wp2_with (refine (sslot_any g _).mono ?_; rintro e w' ⟨rfl, rfl⟩)
        refine (sectors_any g t _ w1 HG.out HL.out ((X.out.below B1.out).more B1.out.size)).mono ?_
        rintro e w3 ⟨y3, rfl, ha, b3⟩
        obtain ⟨n, hn⟩ : ∃ n, n = cntR t := ⟨_, rfl⟩
        have hlen : (secsR g t).length = n := by rw [secsR_length, hn]
        obtain ⟨A4, c4, rfl⟩ := own_sliceN (show w3.ownsRow _ _ _ _ (secsR g t).length _ from ha)
        obtain ⟨ls, hls⟩ : ∃ ls, ls = secsR g t := ⟨_, rfl⟩
        rw [← hls] at ha hlen ⊢
        rw [hlen]
        have hl128 : ∀ s ∈ ls, s.length = 128 := fun s hs => by rw [hls] at hs; exact secsR_128 hs
        have hn16 : n ≤ 16 := by rw [hn]; exact cntR_le HL.out
        have hn1 : 1 ≤ n := by rw [hn]; exact cntR_pos t
        obtain ⟨sl, hsl⟩ : ∃ sl, sl = slotN g := ⟨_, rfl⟩
        have hsl16 : sl ≤ 16 := by rw [hsl]; exact slotN_le g
        rw [← hsl]
        have HN := Lib.hid hn
        have HSL := Lib.hid hsl
        have HLS := Lib.hid hls
        have HLEN := Lib.hid hlen
        have HL128 := Lib.hid hl128
        have HA := Lib.hid ha
        have B3 := Lib.hid (B1.out.trans (b3.mono B1.out.size))
        have D3 := Lib.hid ((b3.block _ (heap_lt C0.out)).trans C0.out)
        have R3 := Lib.hid ((b3.block _ (heap_lt C2.out)).trans C2.out)
        have L3 : Hid (w.heap.size + 3 ≤ w3.heap.size) := Lib.hid (Nat.le_trans L1.out b3.size)
        clear k0 k1 m0 m1 r0 r1 f0 f1 hn hls hlen hl128 ha b3 hsl hg0 hl
        go_wp2_with fail
        go_loopw [32] (fun s32 wr => ∃ (i : Nat) (x1 x2 : Value), i ≤ n ∧ s32 = .int .i64 i ∧ ws.length + i ≤ 256 ∧ wr.heap[w.heap.size]? = some (.cells #[x1, x2] 29 (0, 0)) ∧ DiskIn wr wr.heap.size (.agg #[x1, x2]) ss (ws ++ (putWs g t).take i) ∧ (0 < i → DiskAt wr (w.heap.size + 3) (.agg #[x1, x2]) ss (ws ++ (putWs g t).take i)) ∧ w3.grownBy wr (some w.heap.size)) (fun s32 _ => n - (intOf s32).toNat)
        case atStart => exact ⟨0, v1, v2, Nat.zero_le _, rfl, by have := HM.out.m; omega, D3.out, by rw [List.take_zero, List.append_nil]; exact (H.out.below B3.out).more B3.out.size, fun h => absurd h (by omega), World.grownBy.refl _ _⟩
        case round =>
          obtain ⟨i, x1, x2, hi, rfl, hw256, hd, hin, hat, hgr⟩ := hrel
          have HD := Lib.hid hd
          have HIN := Lib.hid hin
          have HAT := Lib.hid hat
          have HGR := Lib.hid hgr
          clear hd hin hat hgr
          by_cases hlt : i < n
          · have hlt' : (i : Int) < n := by omega
            have hil : i < ls.length := by rw [HLEN.out]; exact hlt
            obtain ⟨ab, rfl, hab, hcells⟩ := HA.out.at HL128.out hil
            have hsec : ls[i].length = 128 := HL128.out _ (List.getElem_mem hil)
            have habn : ab ≠ w.heap.size := by have := L1.out; omega
            have hcw : ∀ j v, (bytesV ls[i])[j]? = some v → wr.cell? ⟨ab, i * 128 + j, none⟩ = some v := fun j v hj =>
              (World.cell?_of_block (a := ⟨ab, i * 128 + j, none⟩) (HGR.out.block ab (cell_lt (hcells j v hj)) (fun e => habn (by simpa using e)))).trans (hcells j v hj)
            have hit : i < cntR t := by rw [← HN.out]; exact hlt
            have hseq : ls[i] = secR g (bodyR g t) i := by
              have h := secsR_at (g := g) hit
              rw [← HLS.out, List.getElem?_eq_getElem hil] at h
              exact Option.some.inj h
            obtain ⟨N, hN⟩ : ∃ N : Nat, N = sl + i := ⟨_, rfl⟩
            have hwe : writeE ss (ws ++ (putWs g t).take i) (N : Int) ls[i] = if ws.length + i = 256 then 9 else 0 := by
              rw [hN, hseq, HSL.out]; exact part_writeE HM.out HL.out hw256 hit
            have hww : (ws ++ (putWs g t).take i) ++ [((N : Int), ls[i])] = ws ++ (putWs g t).take (i + 1) := by
              rw [hN, part_snoc ws hit, hseq, HSL.out]; rfl
            have HWE := Lib.hid hwe
            have HWW := Lib.hid hww
            have HIT := Lib.hid hit
            have HNN := Lib.hid hN
            generalize ls[i] = sec at hsec hcw HWE HWW
            have HSEC := Lib.hid hsec
            have HCW := Lib.hid hcw
            have hz128 := zero128.1
            clear hcells hsec hcw hwe hww hseq hil hit
            go_wp2_with (first
              | ((with_reducible show wpList _ _ _ (⟨some 36, _, _, _, _, _⟩ :: _) _ _); refine wpList_load_arr rfl _ rfl ab (i * 128) rfl HSEC.out HCW.out ?_)
              | ((with_reducible show wpList _ _ _ (⟨none, _, _, _, _, _⟩ :: _) _ _); refine wpList_store_row rfl 77 _ _ rfl wr.heap.size rfl rfl (heap_alloc_self _ _) (by rw [rowB_size, HSEC.out]; exact zero128.2) (by rw [rowB_size, HSEC.out]; simp) (rowB_one sec) ?_))
            clear hz128
            rw [World.setRow_alloc_new]
            have hv1 := heap_alloc_self wr (.cells (rowB sec) 77)
            have hvb := below_new wr (.cells (rowB sec) 77)
            generalize wr.alloc (.cells (rowB sec) 77) = v at hv1 hvb ⊢
            have V1 := Lib.hid hv1
            have VB := Lib.hid hvb
            have HDV := Lib.hid ((hvb.block _ (heap_lt HD.out)).trans HD.out)
            have HIV := Lib.hid ((HIN.out.below hvb).more hvb.size)
            have hx1 := txt_of_block hv1 (by rw [HSEC.out]; unfold maxLen; omega)
            rw [HSEC.out] at hx1
            have HX := Lib.hid hx1
            obtain ⟨A5, n5, c5, A6, n6, c6, he5, he6⟩ : ∃ A5 n5 c5 A6 n6 c6, x1 = .slice A5 n5 c5 ∧ x2 = .slice A6 n6 c6 := by
              obtain ⟨z1, z2, ez, hs1, hw1⟩ := HIN.out
              cases ez
              obtain ⟨A5, c5, e5, _⟩ := hs1
              obtain ⟨A6, c6, e6, _⟩ := hw1
              exact ⟨A5, _, c5, A6, _, c6, e5, e6⟩
            subst he5 he6
            have hx := HDV.out
            obtain ⟨d0, d1⟩ := cell2_of (show v.drew.heap[w.heap.size]? = _ from hx)
            have hsi : (sl : Int) + i = (N : Int) := by omega
            have hwrp : IntKind.i64.wrap (N : Int) = N := by simp [IntKind.wrap, IntKind.bits]; omega
            have hdv : DiskIn v.drew v.drew.heap.size (.agg #[.slice A5 n5 c5, .slice A6 n6 c6]) ss (ws ++ (putWs g t).take i) := HIV.out
            have hxv : Txt v.drew v.drew.heap.size (.slice (some ⟨wr.heap.size, 0, none⟩) 128 128) sec := HX.out
            have hwr := write_any (.agg #[.slice A5 n5 c5, .slice A6 n6 c6]) (.slice (some ⟨wr.heap.size, 0, none⟩) 128 128) ss (ws ++ (putWs g t).take i) (N : Int) sec v.drew hdv hxv
            obtain ⟨E5, hE5⟩ : ∃ E, E = writeE ss (ws ++ (putWs g t).take i) (N : Int) sec := ⟨_, rfl⟩
            obtain ⟨S5, hS5⟩ : ∃ S, S = writeS ss (ws ++ (putWs g t).take i) (N : Int) sec := ⟨_, rfl⟩
            obtain ⟨W5, hW5⟩ : ∃ W, W = writeW ss (ws ++ (putWs g t).take i) (N : Int) sec := ⟨_, rfl⟩
            rw [← hE5, ← hS5, ← hW5] at hwr
            have HE5 := Lib.hid hE5
            have HS5 := Lib.hid hS5
            have HW5 := Lib.hid hW5
            have HWR := Lib.hid hwr
            clear hE5 hS5 hW5
            clear hv1 hvb hx1 hx hN hdv hxv hwr
            go_wp2_with fail
            refine wp_region_held_drew (S := fun _ => True) (by kernel_rfl) trivial (fun hHeld => ?_)
            refine wpAnyH_take (i := 1) (v := ?_) rfl (by kernel_rfl) (by kernel_rfl) (by kernel_rfl) (fun _ _ _ h => h) (Or.inl ⟨by rfl, ?_⟩) hHeld ?_
            rotate_left
            · intro w' hSw; go_simp; try with_reducible rfl
            simp only [List.getElem_toArray, List.getElem_cons_succ, List.getElem_cons_zero, Act.put, List.setIfInBounds_toArray, List.set_cons_zero, List.set_cons_succ]
            refine wpAnyH_take (i := 2) (v := ?_) rfl (by kernel_rfl) (by kernel_rfl) (by kernel_rfl) (fun _ _ _ h => h) (Or.inl ⟨by rfl, ?_⟩) hHeld ?_
            rotate_left
            · intro w' hSw; go_simp; try with_reducible rfl
            simp only [List.getElem_toArray, List.getElem_cons_succ, List.getElem_cons_zero, Act.put, List.setIfInBounds_toArray, List.set_cons_zero, List.set_cons_succ]
            refine wpAnyH_take (i := 3) (v := ?_) rfl (by kernel_rfl) (by kernel_rfl) (by kernel_rfl) (fun _ _ _ h => h) (Or.inl ⟨by rfl, ?_⟩) hHeld ?_
            rotate_left
            · intro w' hSw; go_simp; try with_reducible rfl
            simp only [List.getElem_toArray, List.getElem_cons_succ, List.getElem_cons_zero, Act.put, List.setIfInBounds_toArray, List.set_cons_zero, List.set_cons_succ]
            refine wpAnyH_take (i := 4) (v := ?_) rfl (by kernel_rfl) (by kernel_rfl) (by kernel_rfl) (fun _ _ _ h => h) (Or.inl ⟨by rfl, ?_⟩) hHeld ?_
            rotate_left
            · intro w' hSw; go_simp; try with_reducible rfl
            simp only [List.getElem_toArray, List.getElem_cons_succ, List.getElem_cons_zero, Act.put, List.setIfInBounds_toArray, List.set_cons_zero, List.set_cons_succ]
            refine wpAnyH_ready (rs := [0]) (by kernel_rfl) (by simp) ?_
            refine AllReadyH.cons rfl (fun K hK => ?_) AllReadyH.nil
            go_simp
            refine hK.out _ _ ?_ (fun hHeld => ?_)
            · exact trivial
            clear hK K
            try simp only [List.getElem_toArray, List.getElem_cons_succ, List.getElem_cons_zero, Act.put, List.setIfInBounds_toArray, List.set_cons_zero, List.set_cons_succ]
            refine wpAnyH_ready (rs := [5]) (by kernel_rfl) (by simp) ?_
            refine AllReadyH.cons rfl (fun K hK => ?_) AllReadyH.nil
            go_simp
            refine HWR.out.mono ?_
            rintro e w5 ⟨d5, rfl, hd5, b5⟩
            have B5 : Hid (Below v.heap.size v w5) := Lib.hid ((Below.refl _ v).drew.trans b5)
            have hd5' : DiskAt w5 v.heap.size d5 S5 W5 := hd5
            have HD5 := Lib.hid hd5'
            obtain ⟨z1, z2, rfl, hz1, hz2⟩ := hd5
            obtain ⟨A7, n7, c7, rfl⟩ := secs_any hz1
            obtain ⟨A8, n8, c8, rfl⟩ := wts_any hz2
            have hx5 := (B5.out.block _ (heap_lt HDV.out)).trans HDV.out
            have HX5 := Lib.hid hx5
            obtain ⟨p0, p1⟩ := cell2_of hx5
            have g0 := frozen2_of hx5 0
            have g1 := frozen2_of hx5 1
            clear b5 hd5' hz1 hz2 hx5
            try go_wp2_with fail
            refine hK.out _ _ ?_ (fun hHeld => ?_)
            · exact trivial
            clear hK K
            try simp only [List.getElem_toArray, List.getElem_cons_succ, List.getElem_cons_zero, Act.put, List.setIfInBounds_toArray, List.set_cons_zero, List.set_cons_succ]
            refine wpAnyH_take (i := 6) (v := ?_) rfl (by kernel_rfl) (by kernel_rfl) (by kernel_rfl) (fun _ _ _ h => h) (Or.inl ⟨by rfl, ?_⟩) hHeld ?_
            rotate_left
            · intro w' hSw; go_simp; try with_reducible rfl
            simp only [List.getElem_toArray, List.getElem_cons_succ, List.getElem_cons_zero, Act.put, List.setIfInBounds_toArray, List.set_cons_zero, List.set_cons_succ]
            refine wpAnyH_take (i := 7) (v := ?_) rfl (by kernel_rfl) (by kernel_rfl) (by kernel_rfl) (fun _ _ _ h => h) (Or.inl ⟨by rfl, ?_⟩) hHeld ?_
            rotate_left
            · intro w' hSw; go_simp; try with_reducible rfl
            simp only [List.getElem_toArray, List.getElem_cons_succ, List.getElem_cons_zero, Act.put, List.setIfInBounds_toArray, List.set_cons_zero, List.set_cons_succ]
            refine wpAnyH_take (i := 8) (v := ?_) rfl (by kernel_rfl) (by kernel_rfl) (by kernel_rfl) (fun _ _ _ h => h) (Or.inl ⟨by rfl, ?_⟩) hHeld ?_
            rotate_left
            · intro w' hSw; go_simp; try with_reducible rfl
            simp only [List.getElem_toArray, List.getElem_cons_succ, List.getElem_cons_zero, Act.put, List.setIfInBounds_toArray, List.set_cons_zero, List.set_cons_succ]
            refine wpAnyH_ready (rs := [9]) (by kernel_rfl) (by simp) ?_
            refine AllReadyH.cons rfl (fun K hK => ?_) AllReadyH.nil
            go_simp
            refine hK.out _ _ ?_ (fun hHeld => ?_)
            · exact trivial
            clear hK K
            try simp only [List.getElem_toArray, List.getElem_cons_succ, List.getElem_cons_zero, Act.put, List.setIfInBounds_toArray, List.set_cons_zero, List.set_cons_succ]
            refine wpAnyH_take (i := 10) (v := ?_) rfl (by kernel_rfl) (by kernel_rfl) (by kernel_rfl) (fun _ _ _ h => h) (Or.inl ⟨by rfl, ?_⟩) hHeld ?_
            rotate_left
            · intro w' hSw; go_simp; try with_reducible rfl
            simp only [List.getElem_toArray, List.getElem_cons_succ, List.getElem_cons_zero, Act.put, List.setIfInBounds_toArray, List.set_cons_zero, List.set_cons_succ]
            refine wpAnyH_done (by kernel_rfl) ?_ _
            have hz0 := heap_set2 HX5.out (.slice A7 n7 c7) (.slice A8 n8 c8)
            have hzg := grown_set2 w5 w.heap.size (.slice A7 n7 c7) (.slice A8 n8 c8)
            have hzd := disk_turned HD5.out HX5.out (by decide) (by decide) (by decide) hzg
            generalize (w5.setCell ⟨w.heap.size, 0, none⟩ (.slice A7 n7 c7)).setCell ⟨w.heap.size, 1, none⟩ (.slice A8 n8 c8) = w6 at hz0 hzg hzd ⊢
            have Z0 := Lib.hid hz0
            have ZD := Lib.hid hzd
            have hg6 : w3.grownBy w6 (some w.heap.size) := by
              have b5 := VB.out.trans (B5.out.mono VB.out.size)
              refine ⟨hzg.os.trans (b5.os.trans HGR.out.os), hzg.tape.trans (b5.tape.trans HGR.out.tape), hzg.output.trans (b5.output.trans HGR.out.output), Nat.le_trans HGR.out.size (Nat.le_trans b5.size hzg.size), fun k hk hne => ?_⟩
              have hk1 : k < wr.heap.size := Nat.lt_of_lt_of_le hk HGR.out.size
              exact (hzg.block k (Nat.lt_of_lt_of_le hk1 b5.size) hne).trans ((b5.block k hk1).trans (HGR.out.block k hk hne))
            have G6 := Lib.hid hg6
            have VL : Hid (w.heap.size + 3 ≤ v.heap.size) := Lib.hid (by have := L3.out; have := HGR.out.size; have := VB.out.size; omega)
            clear hz0 hzg hzd hg6 p0 p1 g0 g1 hHeld hsi hwrp d0 d1
            by_cases h256 : ws.length + i = 256
            · have hE9 : E5 = 9 := by rw [HE5.out, HWE.out, if_pos h256]
              have hEE : putE ss ws g t = 9 := by rw [HE.out, if_pos (by have := HIT.out; omega)]
              have HEE := Lib.hid hEE
              rw [hE9]
              have hr := (G6.out.block (w.heap.size + 1 + 1) (heap_lt R3.out) (fun e => by have : w.heap.size + 1 + 1 = w.heap.size := (by simpa using e); omega)).trans R3.out
              have R6 := Lib.hid hr
              have B6 : Hid (Below w.heap.size w w6) := Lib.hid (B3.out.grown G6.out B3.out.size (fun k hk => by cases hk; exact Nat.le_refl _))
              obtain ⟨r0, r1⟩ := cell2_of hr
              have f0 := frozen2_of hr 0
              have f1 := frozen2_of hr 1
              clear hE9 hEE hr
              go_wp2_with fail
              exact bodyPost_ret (results_2_tmp rfl _ _ (w.heap.size + 1 + 1) rfl (zero_kept R6.out) Try.underlying29 infoDisk2 (.int .i64 9) rfl) rfl (BAD.out 9 w6 R6.out B6.out HEE.out (by decide))
            · have hE0 : E5 = 0 := by rw [HE5.out, HWE.out, if_neg h256]
              have hEE := HE5.out
              rw [hE0] at hEE
              have hSS : S5 = ss := by rw [HS5.out, writeS, ← hEE, if_pos rfl]
              have hWW : W5 = ws ++ (putWs g t).take (i + 1) := by rw [HW5.out, writeW, ← hEE, if_pos rfl, HWW.out]
              have hd6 := ZD.out
              rw [hSS, hWW] at hd6
              have D6 := Lib.hid hd6
              rw [hE0]
              clear hE0 hEE hSS hWW hd6
              go_wp2_with fail
              go_roundw
              case measure => simp [intOf]; omega
              case rel => exact ⟨i + 1, _, _, by omega, by go_num, by omega, Z0.out, D6.out.in_, fun _ => D6.out.mono VL.out, G6.out⟩
          · obtain rfl : i = n := by omega
            have hlt' : ¬ (i : Int) < i := by omega
            have hE0 : putE ss ws g t = 0 := by rw [HE.out, if_neg (by rw [← HN.out]; omega)]
            have HE0 := Lib.hid hE0
            have hall : ws ++ (putWs g t).take i = ws ++ putWs g t := by rw [List.take_of_length_le (by rw [putWs_length, ← HN.out]; exact Nat.le_refl _)]
            have hat := HAT.out (by omega)
            rw [hall] at hat
            have HA2 := Lib.hid hat
            obtain ⟨z1, z2, ez, hz1, hz2⟩ := hat
            cases ez
            obtain ⟨A7, n7, c7, rfl⟩ := secs_any hz1
            obtain ⟨A8, n8, c8, rfl⟩ := wts_any hz2
            have hr := (HGR.out.block (w.heap.size + 1 + 1) (heap_lt R3.out) (fun e => by have : w.heap.size + 1 + 1 = w.heap.size := (by simpa using e); omega)).trans R3.out
            have R4 := Lib.hid hr
            obtain ⟨d0, d1⟩ := cell2_of HD.out
            obtain ⟨r0, r1⟩ := cell2_of hr
            have f0 := frozen2_of hr 0
            have f1 := frozen2_of hr 1
            have hbw : Below w.heap.size w wr := B3.out.grown HGR.out B3.out.size (fun k hk => by cases hk; exact Nat.le_refl _)
            have HBW := Lib.hid hbw
            clear hE0 hall hz1 hz2 hr hbw
            go_wp2_with fail
            refine bodyPost_ret (results_2_tmp rfl _ _ (w.heap.size + 1 + 1) rfl (heap_set2 R4.out _ _) Try.underlying29 infoDisk2 (.int .i64 0) rfl) rfl ⟨_, by rw [HE0.out], ?_, below_set2 HBW.out (by omega) _ _⟩
            rw [putS, putW, HE0.out, if_pos rfl, if_pos rfl]
            exact (disk_turned HA2.out R4.out (by decide) (by decide) (by decide) (grown_set2 wr (w.heap.size + 1 + 1) _ _)).mono (lo := w.heap.size + 3) (Nat.le_add_right _ 3)
end Go.Proofs.Ytdjoflhcagfmiaa
