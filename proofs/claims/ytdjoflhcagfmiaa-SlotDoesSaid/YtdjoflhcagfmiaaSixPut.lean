/-
  The document's own functions With and Put.
  Conditions: none.
-/
import Derived.Test.YtdjoflhcagfmiaaSixSecs
import Derived.Test.YtdjoflhcagfmiaaMFind
import Derived.Test.YtdjoflhcagfmiaaRefWith
import Derived.StillTailTactics
set_option linter.unusedVariables false
set_option linter.unusedSimpArgs false
set_option maxRecDepth 100000
namespace Go.Proofs.Ytdjoflhcagfmiaa
open Go.RowKit

theorem secsAt_cell {W : World} {lo n c : Nat} {A : Option Addr} {ss : List Bs} {s : Bs} {i : Nat} (h : SecsAt W lo (.slice A n c) ss) (hi : ss[i]? = some s) :
    ∃ b A' c', A = some ⟨b, 0, none⟩ ∧ lo ≤ b ∧ b < W.heap.size ∧ W.cell? ⟨b, i, none⟩ = some (.slice A' s.length c') ∧ W.ownsRow lo 5 1 (.slice A' s.length c') s.length (s.map u8) ∧ s.length ≤ maxLen := by
  obtain ⟨ys, ho, hl, hm, he, -⟩ := h
  have hil : i < ss.length := (List.getElem?_eq_some_iff.1 hi).1
  obtain ⟨y, hy⟩ : ∃ y, ys[i]? = some y := ⟨_, List.getElem?_eq_getElem (by omega)⟩
  obtain ⟨h1, h2⟩ := he i y s hy hi
  obtain ⟨A', c', rfl⟩ := own_slice_ h1
  rcases ho.2 with ⟨e, h0⟩ | ⟨b, cap, cur, e, hlo, hgb, _⟩
  · omega
  · cases e
    exact ⟨b, A', c', rfl, hlo, heap_lt hgb, by rw [ho.cellAt i (by omega), hy], h1, h2⟩

theorem grown_thru {a b c : World} {p : Nat} (h : a.grownBy b (some p)) (k : b.grownBy c (some p)) : a.grownBy c (some p) :=
  ⟨k.1.trans h.1, k.2.trans h.2, k.3.trans h.3, Nat.le_trans h.4 k.4, fun b' hb hp => (k.5 b' (Nat.lt_of_lt_of_le hb h.4) hp).trans (h.5 b' hb hp)⟩
theorem grown_belowB {a b c : World} {p : Nat} (h : a.grownBy b (some p)) (k : Below b.heap.size b c) : a.grownBy c (some p) :=
  ⟨k.os.trans h.1, k.tape.trans h.2, k.output.trans h.3, Nat.le_trans h.4 k.size, fun b' hb hp => (k.block b' (Nat.lt_of_lt_of_le hb h.4)).trans (h.5 b' hb hp)⟩
theorem rslot_same (g : Nat) (w : World) : Calls Try.prog 22 #[.int .u32 g] w fun e w' => e = .returned (.int .i64 (slotN g : Nat)) ∧ w' = w := by
  refine (rslot_any g w).mono ?_
  rintro e w' ⟨h1, h2⟩
  exact ⟨h1, h2.symm⟩

set_option maxHeartbeats 8000000 in
theorem rwith6_any (d tv : Value) (ss : List Bs) (ws : List Wr) (g : Nat) (t : Bs) (hg : g < 4294967296) (hl : t.length ≤ 1882) (hm : May ss ws) (hr : ws.length + cntR t ≤ 256) (w : World) (h : DiskIn w w.heap.size d ss ws) (ht : Txt w w.heap.size tv t) :
    Calls Try.prog 41 #[d, .agg #[.int .u32 (g : Int), tv]] w fun e w' => ∃ d', e = .returned d' ∧ DiskAt w' w.heap.size d' ss (ws ++ putWs g t) ∧ Below w.heap.size w w' := by
  obtain ⟨v1, v2, rfl, h1, h2⟩ := id h
  have H := Lib.hid h
  have X := Lib.hid ht
  have HM := Lib.hid hm
  have HR := Lib.hid hr
  have HL := Lib.hid hl
  obtain ⟨A3, c3, rfl, -, -, -, -⟩ := ht
  obtain ⟨q, hq, q0, q1, q2, qs, qb⟩ := boxes3 w (.cells #[v1, v2] 29) (.cells #[.int .u32 (g : Int), .slice A3 t.length c3] 36) (.cells #[.slice none 0 0, .slice none 0 0] 29)
  have QB := Lib.hid qb
  have QS := Lib.hid qs
  clear h1 h2 h hm hr hl qb qs
  go_enter Try.func41, Try.ntmps41
  obtain ⟨m0, m1⟩ := cell2_of q1
  go_wp2_with fail
  rw [← hq]
  clear hq
  refine (rsectors_any g _ t hg HL.out q ((X.out.below QB.out).more QB.out.size)).mono ?_
  rintro e w3 ⟨y3, rfl, ha, b3⟩
  obtain ⟨A4, c4, rfl⟩ := secs_slice ha
  obtain ⟨n, hn⟩ : ∃ n, n = cntR t := ⟨_, rfl⟩
  have hlen : (secsR g t).length = n := by rw [secsR_length, hn]
  rw [hlen] at ha ⊢
  have hn16 : n ≤ 16 := by rw [hn]; exact cntR_le HL.out
  have hn1 : 1 ≤ n := by rw [hn]; exact cntR_pos t
  have HN := Lib.hid hn
  have HA := Lib.hid ha
  have B3 := Lib.hid (QB.out.trans (b3.mono QB.out.size))
  have D3 := Lib.hid ((b3.block _ (heap_lt q0)).trans q0)
  have C3 := Lib.hid ((b3.block _ (heap_lt q1)).trans q1)
  have R3 := Lib.hid ((b3.block _ (heap_lt q2)).trans q2)
  have L3 : Hid (w.heap.size + 3 ≤ w3.heap.size) := Lib.hid (by have := b3.size; have := QS.out; omega)
  clear m0 m1 hn hlen ha b3 q0 q1 q2
  go_wp2_with fail
  go_loopw [6] (fun s6 wr => ∃ (i : Nat) (x1 x2 : Value), i ≤ n ∧ s6 = .int .i64 i ∧ wr.heap[w.heap.size]? = some (.cells #[x1, x2] 29 (0, 0)) ∧ DiskIn wr wr.heap.size (.agg #[x1, x2]) ss (ws ++ (putWs g t).take i) ∧ (0 < i → DiskAt wr (w.heap.size + 3) (.agg #[x1, x2]) ss (ws ++ (putWs g t).take i)) ∧ w3.grownBy wr (some w.heap.size)) (fun s6 _ => n - (intOf s6).toNat)
  case atStart => exact ⟨0, v1, v2, Nat.zero_le _, rfl, D3.out, by rw [List.take_zero, List.append_nil]; exact (H.out.below B3.out).more B3.out.size, fun h => absurd h (by omega), World.grownBy.refl _ _⟩
  case round =>
    obtain ⟨i, x1, x2, hi, rfl, hd, hin, hat, hgr⟩ := hrel
    have HD := Lib.hid hd
    have HIN := Lib.hid hin
    have HAT := Lib.hid hat
    have HGR := Lib.hid hgr
    have C4 := Lib.hid ((hgr.block _ (heap_lt C3.out) (fun e => by injection e with e; omega)).trans C3.out)
    have R4 := Lib.hid ((hgr.block _ (heap_lt R3.out) (fun e => by injection e with e; omega)).trans R3.out)
    have L4 : Hid (w.heap.size + 3 ≤ wr.heap.size) := Lib.hid (Nat.le_trans L3.out hgr.size)
    obtain ⟨A5, n5, c5, A6, n6, c6, he5, he6⟩ : ∃ A5 n5 c5 A6 n6 c6, x1 = .slice A5 n5 c5 ∧ x2 = .slice A6 n6 c6 := by
      obtain ⟨z1, z2, ez, hs1, hw1⟩ := hin
      cases ez
      obtain ⟨A5, c5, e5, _⟩ := hs1
      obtain ⟨A6, c6, e6, _⟩ := hw1
      exact ⟨A5, _, c5, A6, _, c6, e5, e6⟩
    subst he5 he6
    clear hd hin hat hgr
    by_cases hlt : i < n
    · have hlt' : (i : Int) < n := by omega
      have hit : i < cntR t := by rw [← HN.out]; exact hlt
      obtain ⟨ab, A7, c7, rfl, habl, habw, hcell, hown, -⟩ := secsAt_cell HA.out (secsR_at hit)
      rw [secR_length] at hcell hown
      have hgb := HGR.out.block ab habw (fun e => by injection e with e; have := QS.out; omega)
      have hcu : wr.cell? ⟨ab, i, none⟩ = some (.slice A7 128 c7) := (World.cell?_of_block (a := ⟨ab, i, none⟩) hgb).trans hcell
      have hown2 : wr.ownsRow q.heap.size 5 1 (.slice A7 128 c7) 128 ((secR g (bodyR g t) i).map u8) := hown.kept HGR.out (by
        cases hv : (Value.slice A7 128 c7).ownBlock with
        | none => exact .inl rfl
        | some k => refine .inr (fun e => ?_); injection e with e; have := own_ge hown _ hv; have := QS.out; omega)
      have TX : Hid (Txt wr wr.heap.size (.slice A7 128 c7) (secR g (bodyR g t) i)) := Lib.hid (own_txt hown2 rfl (secR_length g (bodyR g t) i).symm (by rw [secR_length]; omega))
      obtain ⟨sl, hsl⟩ : ∃ sl, sl = slotN g := ⟨_, rfl⟩
      have hsl16 : sl ≤ 16 := by rw [hsl]; exact slotN_le g
      obtain ⟨N, hN⟩ : ∃ N : Nat, N = sl + i := ⟨_, rfl⟩
      have hww : (ws ++ (putWs g t).take i) ++ [((N : Int), secR g (bodyR g t) i)] = ws ++ (putWs g t).take (i + 1) := by
        rw [hN, part_snoc ws hit, hsl]; rfl
      have HWW := Lib.hid hww
      have HSL := Lib.hid hsl
      have HP : Hid (May ss (ws ++ (putWs g t).take i)) := Lib.hid (may_part HM.out HL.out (by have := HR.out; omega))
      have h128 := secR_length g (bodyR g t) i
      generalize secR g (bodyR g t) i = sec at TX HWW h128
      have H128 := Lib.hid h128
      have hsi : (sl : Int) + i = (N : Int) := by omega
      have hN32 : N ≤ 32 := by omega
      have hwrp : IntKind.i64.wrap (N : Int) = N := by simp [IntKind.wrap, IntKind.bits]; omega
      clear hww hown hown2 hcell hgb hit hN hsl h128 habl habw
      go_wp2_with fail
      refine wp_region_still_tail 10 (by kernel_rfl) (by kernel_rfl) ?_
      change wpStill _ _ (World.drew wr) (fun a' => wpList _ _ _ _ a' (World.drew wr)) _ _
      obtain ⟨u, hu⟩ : ∃ u, u = World.drew wr := ⟨_, rfl⟩
      have hd0 : u.heap[w.heap.size]? = some (.cells #[.slice A5 n5 c5, .slice A6 n6 c6] 29 (0, 0)) := by rw [hu]; exact HD.out
      have hc0 : u.heap[w.heap.size + 1]? = some (.cells #[.int .u32 (g : Int), .slice A3 t.length c3] 36 (0, 0)) := by rw [hu]; exact C4.out
      have hcu' : u.cell? ⟨ab, i, none⟩ = some (.slice A7 128 c7) := by rw [hu]; exact hcu
      have hub : Below wr.heap.size wr u := by rw [hu]; exact (Below.refl _ wr).drew
      rw [← hu]
      obtain ⟨k0, k1⟩ := cell2_of hd0
      obtain ⟨m0, m1⟩ := cell2_of hc0
      have UB := Lib.hid hub
      clear hu hd0 hc0 hub hcu
      simp only [List.take_succ_cons, List.take_zero, List.drop_succ_cons, List.drop_zero]
      repeat still_step
      still_call (rslot_same g _)
      rw [← HSL.out]
      repeat still_step
      refine wpStill_nil ?_
      go_wp2_with fail
      refine (rwith_any _ _ ss (ws ++ (putWs g t).take i) (N : Int) sec u ((HIN.out.below UB.out).more UB.out.size) HP.out.fits ((TX.out.below UB.out).more UB.out.size) (by rw [H128.out]; omega)).mono ?_
      rintro e w5 ⟨d5, rfl, hd5, b5⟩
      rw [HWW.out] at hd5
      obtain ⟨y1, y2, rfl, hy1, hy2⟩ := id hd5
      obtain ⟨A8, n8, c8, rfl⟩ := secs_any hy1
      obtain ⟨A9, n9, c9, rfl⟩ := wts_any hy2
      have B5 := Lib.hid (UB.out.trans (b5.mono UB.out.size))
      have D5 := Lib.hid ((B5.out.block _ (heap_lt HD.out)).trans HD.out)
      have HD5 := Lib.hid hd5
      have HU := Lib.hid UB.out.size
      clear k0 k1 m0 m1 hd5 b5 hy1 hy2
      obtain ⟨k0, k1⟩ := cell2_of D5.out
      have f0 := frozen2_of D5.out 0
      have f1 := frozen2_of D5.out 1
      go_wp2_with fail
      have hg5 := grown_set2 w5 w.heap.size (.slice A8 n8 c8) (.slice A9 n9 c9)
      have hda := (disk_turned HD5.out D5.out (by decide) (by decide) (by decide) hg5).mono (lo' := w.heap.size + 3) (by have := L4.out; have := HU.out; omega)
      have HDA := Lib.hid hda
      have HG5 := Lib.hid (grown_thru (grown_belowB HGR.out B5.out) hg5)
      have H5 := Lib.hid (heap_set2 D5.out (.slice A8 n8 c8) (.slice A9 n9 c9))
      clear hg5 hda
      go_roundw
      case measure => simp [intOf]; omega
      case rel => exact ⟨i + 1, _, _, by omega, by go_num, H5.out, HDA.out.in_, fun _ => HDA.out, HG5.out⟩
    · obtain rfl : i = n := by omega
      have hlt' : ¬ (i : Int) < i := by omega
      have HAI := Lib.hid (HAT.out (by omega))
      obtain ⟨k0, k1⟩ := cell2_of HD.out
      obtain ⟨r0, r1⟩ := cell2_of R4.out
      have f0 := frozen2_of R4.out 0
      have f1 := frozen2_of R4.out 1
      have hbw : Below w.heap.size w wr := B3.out.grown HGR.out B3.out.size (fun k hk => by cases hk; exact Nat.le_refl _)
      have HBW := Lib.hid hbw
      clear hbw
      go_wp2_with fail
      refine bodyPost_ret (v := .agg #[.slice A5 n5 c5, .slice A6 n6 c6]) ?_ rfl ⟨_, rfl, ?_, below_set2 HBW.out (by omega) _ _⟩
      · exact results_cell_2 rfl _ _ (w.heap.size + 1 + 1) rfl (heap_set2 R4.out _ _) Try.underlying29 infoDisk2
      · have h := (disk_turned HAI.out R4.out (by decide) (by decide) (by decide) (grown_set2 wr (w.heap.size + 1 + 1) (.slice A5 n5 c5) (.slice A6 n6 c6))).mono (lo' := w.heap.size) (by omega)
        rw [List.take_of_length_le (by rw [putWs_length, ← HN.out]; exact Nat.le_refl _)] at h
        exact h
end Go.Proofs.Ytdjoflhcagfmiaa
