/-
  The document's own functions: Spoil.
  Conditions: none.
-/
import Derived.Test.YtdpjdobmnkadjaaRefTwin
import Derived.Test.YtdpjdobmnkadjaaRefSync
import Derived.StillTailTactics
set_option linter.unusedVariables false
set_option linter.unusedSimpArgs false
namespace Go.Proofs.Ytdpjdobmnkadjaa
open Go.RowKit

set_option maxRecDepth 100000 in
set_option maxHeartbeats 1000000 in
theorem rspoil_any (d : Value) (ss : List Bs) (ws : List Wr) (n k : Int) (x : UInt8) (w : World) (h : DiskIn w w.heap.size d ss ws) :
    Calls Try.prog 30 #[d, .int .i64 n, .int .i64 k, .int .u8 (x.toNat : Int)] w fun e w' => ∃ d', e = .returned (.tuple #[d', .int .i64 (spoilE ss ws n k)]) ∧ DiskAt w' w.heap.size d' (spoilS ss ws n k x) (spoilW ss ws n k) ∧ Below w.heap.size w w' := by
  obtain ⟨v1, v2, rfl, h1, h2⟩ := id h
  have H := Lib.hid h
  clear h1 h2 h
  have hq := two_boxes w (.cells #[v1, v2] 25) (.cells #[.slice none 0 0, .slice none 0 0] 25)
  cases hm : mayB ss ws with
  | false =>
    have hE : atE ss ws n = 8 := by rw [atE, hm]; rfl
    have HE : Hid (spoilE ss ws n k = 8) := Lib.hid (by rw [spoilE, if_neg (by rw [hE]; decide), hE])
    clear hE
    go_enter Try.func30, Try.ntmps30
    go_wp2_with fail
    generalize (w.alloc (.cells #[v1, v2] 25)).alloc (.cells #[.slice none 0 0, .slice none 0 0] 25) = q at hq ⊢
    obtain ⟨q0, q1, qb⟩ := hq
    have QB := Lib.hid qb
    refine (rcheck_any _ ss ws q ((H.out.below QB.out).more QB.out.size)).mono ?_
    rw [hm]
    rintro e w1 ⟨rfl, b1⟩
    simp only [Bool.false_eq_true, ↓reduceIte]
    have B1 := Lib.hid (QB.out.trans (b1.mono QB.out.size))
    have C0 := Lib.hid ((b1.block _ (heap_lt q0)).trans q0)
    have C1 := Lib.hid ((b1.block _ (heap_lt q1)).trans q1)
    clear q0 q1 qb b1 QB
    obtain ⟨k0, k1⟩ := cell2_of C0.out
    obtain ⟨r0, r1⟩ := cell2_of C1.out
    have f0 := frozen2_of C1.out 0
    have f1 := frozen2_of C1.out 1
    have bad : ∀ r : Int, spoilE ss ws n k = r → r ≠ 0 → ∃ d', Ending.returned (.tuple #[.agg #[.slice none 0 0, .slice none 0 0], .int .i64 r]) = .returned (.tuple #[d', .int .i64 (spoilE ss ws n k)]) ∧ DiskAt ((w1.setCell ⟨w.heap.size + 1, 0, none⟩ (.slice none 0 0)).setCell ⟨w.heap.size + 1, 1, none⟩ (.slice none 0 0)) w.heap.size d' (spoilS ss ws n k x) (spoilW ss ws n k) ∧ Below w.heap.size w ((w1.setCell ⟨w.heap.size + 1, 0, none⟩ (.slice none 0 0)).setCell ⟨w.heap.size + 1, 1, none⟩ (.slice none 0 0)) := fun r h h0 =>
      ⟨_, by rw [h], by rw [spoilS, spoilW, h, if_neg h0, if_neg h0]; exact DiskAt.nil_ _ _, below_set2 B1.out (by omega) _ _⟩
    have BAD := Lib.hid bad
    clear bad
    clear hm
    go_wp2_with fail
    refine bodyPost_ret (v := .tuple #[.agg #[.slice none 0 0, .slice none 0 0], .int .i64 8]) ?_ rfl (BAD.out 8 HE.out (by decide))
    exact results_2_tmp rfl _ _ (w.heap.size + 1) rfl (zero_kept C1.out) Try.underlying25 infoDisk2 _ rfl
  | true =>
    have HM := Lib.hid (mayB_iff.1 hm)
    go_enter Try.func30, Try.ntmps30
    go_wp2_with fail
    generalize (w.alloc (.cells #[v1, v2] 25)).alloc (.cells #[.slice none 0 0, .slice none 0 0] 25) = q at hq ⊢
    obtain ⟨q0, q1, qb⟩ := hq
    have QB := Lib.hid qb
    refine (rcheck_any _ ss ws q ((H.out.below QB.out).more QB.out.size)).mono ?_
    rw [hm]
    rintro e w1 ⟨rfl, b1⟩
    simp only [↓reduceIte]
    have B1 := Lib.hid (QB.out.trans (b1.mono QB.out.size))
    have C0 := Lib.hid ((b1.block _ (heap_lt q0)).trans q0)
    have C1 := Lib.hid ((b1.block _ (heap_lt q1)).trans q1)
    clear q0 q1 qb b1 QB
    obtain ⟨k0, k1⟩ := cell2_of C0.out
    obtain ⟨r0, r1⟩ := cell2_of C1.out
    have f0 := frozen2_of C1.out 0
    have f1 := frozen2_of C1.out 1
    have bad : ∀ r : Int, spoilE ss ws n k = r → r ≠ 0 → ∃ d', Ending.returned (.tuple #[.agg #[.slice none 0 0, .slice none 0 0], .int .i64 r]) = .returned (.tuple #[d', .int .i64 (spoilE ss ws n k)]) ∧ DiskAt ((w1.setCell ⟨w.heap.size + 1, 0, none⟩ (.slice none 0 0)).setCell ⟨w.heap.size + 1, 1, none⟩ (.slice none 0 0)) w.heap.size d' (spoilS ss ws n k x) (spoilW ss ws n k) ∧ Below w.heap.size w ((w1.setCell ⟨w.heap.size + 1, 0, none⟩ (.slice none 0 0)).setCell ⟨w.heap.size + 1, 1, none⟩ (.slice none 0 0)) := fun r h h0 =>
      ⟨_, by rw [h], by rw [spoilS, spoilW, h, if_neg h0, if_neg h0]; exact DiskAt.nil_ _ _, below_set2 B1.out (by omega) _ _⟩
    have BAD := Lib.hid bad
    clear bad
    by_cases ha : 0 ≤ n ∧ n < 32
    · have hda : decide (0 ≤ n ∧ n < 32) = true := decide_eq_true ha
      have hE : atE ss ws n = 0 := by rw [atE, hm, if_pos rfl, if_pos ha]
      by_cases hb : 0 ≤ k ∧ k < 128
      · have HE : Hid (spoilE ss ws n k = 0) := Lib.hid (by rw [spoilE, if_pos hE, if_pos hb])
        obtain ⟨i, hi⟩ : ∃ i : Nat, n = (i : Int) := ⟨n.toNat, by omega⟩
        obtain ⟨j, hj⟩ : ∃ j : Nat, k = (j : Int) := ⟨k.toNat, by omega⟩
        subst hi hj
        have hi1 : (i : Int) < 32 := ha.2
        have hj1 : (j : Int) < 128 := hb.2
        clear ha hb hE hm hda
        go_wp2_with fail
        refine (number_any _ _ _).mono ?_
        rintro e w' ⟨rfl, rfl⟩
        go_wp2_with fail
        refine (number_any _ _ _).mono ?_
        rintro e w' ⟨rfl, rfl⟩
        go_wp2_with fail
        refine (rtwin_any _ ss ws w1 ((H.out.below B1.out).more B1.out.size) HM.out.fits).mono ?_
        rintro e w2 ⟨y1, y2, m, rfl, hs, hw, hm1, hlt, b2, hmw⟩
        obtain ⟨A9, c9, rfl⟩ := secs_slice hs
        obtain ⟨A8, c8, rfl⟩ := wts_slice hw
        have hq0 := heap_alloc_self w2 (.cells #[.slice A9 ss.length c9, .slice A8 ws.length c8] 25)
        have hqb := below_new w2 (.cells #[.slice A9 ss.length c9, .slice A8 ws.length c8] 25)
        have hsq := hs.below hqb
        have hwq := hw.below hqb
        have hltq : ∀ (b n c j g len cap : Nat), Value.slice A9 ss.length c9 = .slice (some ⟨b, 0, none⟩) n c → j < ss.length → (w2.alloc (.cells #[.slice A9 ss.length c9, .slice A8 ws.length c8] 25)).cell? ⟨b, j, none⟩ = some (.slice (some ⟨g, 0, none⟩) len cap) → g < m := fun b n c j g len cap e hj hc => by
          refine hlt b n c j g len cap e hj ?_
          have hbl := (hs.low b _ _ e (by omega)).2
          rwa [hqb.cell (p := ⟨b, j, none⟩) hbl] at hc
        have hbq := b2.trans (hqb.mono b2.size)
        have hcr := (hbq.block _ (heap_lt C1.out)).trans C1.out
        obtain ⟨b9, hb9⟩ : ∃ b9, b9 = w2.heap.size := ⟨_, rfl⟩
        have hm9 : m ≤ b9 := by rw [hb9]; exact hmw
        rw [← hb9] at hq0
        clear k0 k1 r0 r1 f0 f1
        go_wp2_with fail
        rw [← hb9]
        refine wp_region_still_tail 17 (by kernel_rfl) (by kernel_rfl) ?_
        change wpStill _ _ (World.drew (w2.alloc (.cells #[.slice A9 ss.length c9, .slice A8 ws.length c8] 25))) (fun a' => wpList _ _ _ _ a' (World.drew (w2.alloc (.cells #[.slice A9 ss.length c9, .slice A8 ws.length c8] 25)))) _ _
        have gq0 : (World.drew (w2.alloc (.cells #[.slice A9 ss.length c9, .slice A8 ws.length c8] 25))).heap[b9]? = some (.cells #[.slice A9 ss.length c9, .slice A8 ws.length c8] 25 (0, 0)) := hq0
        have gcr : (World.drew (w2.alloc (.cells #[.slice A9 ss.length c9, .slice A8 ws.length c8] 25))).heap[w.heap.size + 1]? = some (.cells #[.slice none 0 0, .slice none 0 0] 25 (0, 0)) := hcr
        have gbq : Below w.heap.size w (World.drew (w2.alloc (.cells #[.slice A9 ss.length c9, .slice A8 ws.length c8] 25))) := (B1.out.trans (hbq.mono B1.out.size)).drew
        have gsq : SecsAt (World.drew (w2.alloc (.cells #[.slice A9 ss.length c9, .slice A8 ws.length c8] 25))) w1.heap.size (.slice A9 ss.length c9) ss := hsq
        have gwq : WtsAt (World.drew (w2.alloc (.cells #[.slice A9 ss.length c9, .slice A8 ws.length c8] 25))) m (.slice A8 ws.length c8) ws := hwq
        have glt : ∀ (b n c j g len cap : Nat), Value.slice A9 ss.length c9 = .slice (some ⟨b, 0, none⟩) n c → j < ss.length → (World.drew (w2.alloc (.cells #[.slice A9 ss.length c9, .slice A8 ws.length c8] 25))).cell? ⟨b, j, none⟩ = some (.slice (some ⟨g, 0, none⟩) len cap) → g < m := hltq
        clear hq0 hqb hsq hwq hltq hbq hcr hs hw hlt b2 hmw
        generalize World.drew (w2.alloc (.cells #[.slice A9 ss.length c9, .slice A8 ws.length c8] 25)) = u at gq0 gcr gbq gsq gwq glt ⊢
        have hsn := HM.out.n
        have hil : i < ss.length := by omega
        have h128 : ss[i].length = 128 := HM.out.s _ (List.getElem_mem hil)
        obtain ⟨b, g, cap, cur, hA9, hcell, hgc, hlo, hrow, hset⟩ := gsq.at hil (by omega)
        subst hA9
        have hgm : g < m := glt b _ _ i g _ _ rfl hil hcell
        have hjl : j < ss[i].length := by omega
        have hcj : u.cell? ⟨g, j, none⟩ = some (.int .u8 (ss[i][j].toNat : Int)) := by
          rw [hrow.cellAt j (by omega), List.getElem?_map, List.getElem?_eq_getElem hjl]; rfl
        have hfj := hrow.frozenAt j
        have hstore := hrow.stored j (.int .u8 ((ss[i][j].toNat ^^^ x.toNat : Nat) : Int))
        have hmap : (ss[i].map u8).set j (.int .u8 ((ss[i][j].toNat ^^^ x.toNat : Nat) : Int)) = (ss[i].set j (ss[i][j] ^^^ x)).map u8 := by rw [List.map_set]; simp only [u8, UInt8.toNat_xor]
        rw [hmap] at hstore
        have hxor : bits .xor .u8 (ss[i][j].toNat : Int) (x.toNat : Int) = ((ss[i][j].toNat ^^^ x.toNat : Nat) : Int) := u8_xor_nat _ _ (UInt8.toNat_lt _) (UInt8.toNat_lt _)
        have hturn : turned ss i j x = ss.set i (ss[i].set j (ss[i][j] ^^^ x)) := by rw [turned, modify_set _ _ _ hil, modify_set _ _ _ hjl]
        have hsnew := hset _ (ss[i].set j (ss[i][j] ^^^ x)) (by simp) hstore.1 hstore.2
        have hwnew := wts_grown gwq hstore.2 hgm
        have hbnew := below_set (B := w.heap.size) gbq (Nat.le_trans B1.out.size hlo) j (.int .u8 ((ss[i][j].toNat ^^^ x.toNat : Nat) : Int))
        have hg3 := heap_setFar u g j b9 (.int .u8 ((ss[i][j].toNat ^^^ x.toNat : Nat) : Int)) (by omega)
        have hg4 := heap_setFar u g j (w.heap.size + 1) (.int .u8 ((ss[i][j].toNat ^^^ x.toNat : Nat) : Int)) (by have := heap_lt C1.out; omega)
        have C4 := hg4.trans gcr
        have C3 := hg3.trans gq0
        obtain ⟨p0, p1⟩ := cell2_of gq0
        obtain ⟨s0, s1⟩ := cell2_of C3
        obtain ⟨t0, t1⟩ := cell2_of C4
        have g0 := frozen2_of C4 0
        have g1 := frozen2_of C4 1
        have SN := Lib.hid hsnew
        have WN := Lib.hid hwnew
        have BN := Lib.hid hbnew
        have C4 := Lib.hid C4
        have HT := Lib.hid hturn
        have HL := Lib.hid (show w.heap.size + 1 < w1.heap.size ∧ w1.heap.size ≤ m from ⟨heap_lt C1.out, hm1⟩)
        have hi0 : (i : Int) < ss.length := by omega
        have hj0 : (j : Int) < ss[i].length := by omega
        clear gq0 gcr gbq gsq gwq glt hm1 hsn h128 hgc hlo hrow hset hgm hstore hmap hturn hsnew hwnew hbnew hg3 hg4 C3 hb9 hm9
        simp only [List.take_succ_cons, List.take_zero, List.drop_succ_cons, List.drop_zero]
        still_step
        still_step
        still_step
        still_step
        still_step
        still_step
        still_step
        still_step
        still_step
        still_step
        still_step
        still_step
        still_step
        still_step
        still_step
        still_step
        still_step
        refine wpStill_nil ?_
        go_wp2_with fail
        refine bodyPost_ret (v := .tuple #[.agg #[.slice (some ⟨b, 0, none⟩) ss.length c9, .slice A8 ws.length c8], .int .i64 0]) ?_ rfl ⟨_, by rw [HE.out], ?_, below_set2 BN.out (Nat.le_succ _) _ _⟩
        · exact results_2_tmp rfl _ _ (w.heap.size + 1) rfl (heap_set2 C4.out _ _) Try.underlying25 infoDisk2 _ rfl
        · rw [spoilS, spoilW, if_pos HE.out, if_pos HE.out]
          refine ⟨_, _, rfl, ?_, ?_⟩
          · show SecsAt _ _ _ (turned ss i j x)
            rw [HT.out]
            have hl := HL.out
            have h := secs_grown SN.out (grown_set2 _ (w.heap.size + 1) (.slice (some ⟨b, 0, none⟩) ss.length c9) (.slice A8 ws.length c8)) (by omega)
            exact h.mono (by omega)
          · have hl := HL.out
            have h := wts_grown WN.out (grown_set2 _ (w.heap.size + 1) (.slice (some ⟨b, 0, none⟩) ss.length c9) (.slice A8 ws.length c8)) (by omega)
            exact h.mono (by omega)
      · have hdb : decide (0 ≤ k ∧ k < 128) = false := decide_eq_false hb
        have HE : Hid (spoilE ss ws n k = 2) := Lib.hid (by rw [spoilE, if_pos hE, if_neg hb])
        clear ha hb hE hm
        go_wp2_with fail
        refine (number_any _ _ _).mono ?_
        rintro e w' ⟨rfl, rfl⟩
        go_wp2_with fail
        refine (number_any _ _ _).mono ?_
        rintro e w' ⟨rfl, rfl⟩
        go_wp2_with fail
        refine bodyPost_ret (v := .tuple #[.agg #[.slice none 0 0, .slice none 0 0], .int .i64 2]) ?_ rfl (BAD.out 2 HE.out (by decide))
        exact results_2_tmp rfl _ _ (w.heap.size + 1) rfl (zero_kept C1.out) Try.underlying25 infoDisk2 _ rfl
    · have hda : decide (0 ≤ n ∧ n < 32) = false := decide_eq_false ha
      have hE : atE ss ws n = 2 := by rw [atE, hm, if_pos rfl, if_neg ha]
      have HE : Hid (spoilE ss ws n k = 2) := Lib.hid (by rw [spoilE, if_neg (by rw [hE]; decide), hE])
      clear ha hE hm
      go_wp2_with fail
      refine (number_any _ _ _).mono ?_
      rintro e w' ⟨rfl, rfl⟩
      go_wp2_with fail
      refine bodyPost_ret (v := .tuple #[.agg #[.slice none 0 0, .slice none 0 0], .int .i64 2]) ?_ rfl (BAD.out 2 HE.out (by decide))
      exact results_2_tmp rfl _ _ (w.heap.size + 1) rfl (zero_kept C1.out) Try.underlying25 infoDisk2 _ rfl
end Go.Proofs.Ytdpjdobmnkadjaa
