/-
  Spoil, as the program answers it.
  Conditions: none.
-/
import Derived.Test.YtdjoflhcagfmiaaDevApart
import Derived.Laws.BitsAllLaws
set_option linter.unusedVariables false
set_option linter.unusedSimpArgs false
set_option maxRecDepth 100000
namespace Go.Proofs.Ytdjoflhcagfmiaa
open Go.RowKit

theorem wts_grown {W W' : World} {lo b : Nat} {v : Value} {ws : List Wr} (h : WtsAt W lo v ws) (hg : W.grownBy W' (some b)) (hb : b < lo) : WtsAt W' lo v ws := by
  obtain ⟨ys, ho, hl, hm, he⟩ := h
  have ap : ∀ {e size n : Nat} {v : Value} {xs : List Value}, W.ownsRow lo e size v n xs → v.ownBlock = none ∨ v.ownBlock ≠ some b := fun h => by
    cases hv : Value.ownBlock _ with
    | none => exact .inl rfl
    | some g => exact .inr (fun e1 => by cases e1; have := (h.lt b hv).1; omega)
  exact ⟨ys, ho.kept hg (ap ho), hl, hm, fun j y s h1 h2 => ⟨(he j y s h1 h2).1.kept hg (ap (he j y s h1 h2).1), (he j y s h1 h2).2⟩⟩

def spoilE (ss : List Bs) (ws : List Wr) (n k : Int) : Int := if atE ss ws n = 0 then (if 0 ≤ k ∧ k < 128 then 0 else 2) else atE ss ws n
def turned (ss : List Bs) (n k : Nat) (x : UInt8) : List Bs := ss.modify n fun s => s.modify k fun b => b ^^^ x
def spoilS (ss : List Bs) (ws : List Wr) (n k : Int) (x : UInt8) : List Bs := if spoilE ss ws n k = 0 then turned ss n.toNat k.toNat x else []
def spoilW (ss : List Bs) (ws : List Wr) (n k : Int) : List Wr := if spoilE ss ws n k = 0 then ws else []
theorem atE_may {ss : List Bs} {ws : List Wr} {n : Int} (h : atE ss ws n = 0) : May ss ws ∧ 0 ≤ n ∧ n < 32 := by
  unfold atE at h
  split at h
  · rename_i h1
    split at h
    · rename_i h2; exact ⟨mayB_iff.1 h1, h2⟩
    · cases h
  · cases h
theorem atE_cases (ss : List Bs) (ws : List Wr) (n : Int) : atE ss ws n = 0 ∨ (atE ss ws n = 2 ∨ atE ss ws n = 8) := by
  unfold atE
  split
  · split
    · exact .inl rfl
    · exact .inr (.inl rfl)
  · exact .inr (.inr rfl)
set_option maxRecDepth 100000 in
set_option maxHeartbeats 1000000 in
theorem spoil_any (d : Value) (ss : List Bs) (ws : List Wr) (n k : Int) (x : UInt8) (w : World) (h : DiskIn w w.heap.size d ss ws) :
    Calls Try.prog 25 #[d, .int .i64 n, .int .i64 k, .int .u8 (x.toNat : Int)] w fun e w' => ∃ d', e = .returned (.tuple #[d', .int .i64 (spoilE ss ws n k)]) ∧ DiskAt w' w.heap.size d' (spoilS ss ws n k x) (spoilW ss ws n k) ∧ Below w.heap.size w w' := by
  obtain ⟨v1, v2, rfl, h1, h2⟩ := id h
  have H := Lib.hid h
  clear h1 h2 h
  have hq := two_boxes w (.cells #[v1, v2] 29) (.cells #[.slice none 0 0, .slice none 0 0] 29)
  go_enter Try.func25, Try.ntmps25
  go_wp2_with fail
  generalize (w.alloc (.cells #[v1, v2] 29)).alloc (.cells #[.slice none 0 0, .slice none 0 0] 29) = q at hq ⊢
  obtain ⟨q0, q1, qb⟩ := hq
  have QB := Lib.hid qb
  refine (checkAt_any _ ss ws n q ((H.out.below QB.out).more QB.out.size)).mono ?_
  rintro e w1 ⟨rfl, b1⟩
  have B1 := Lib.hid (QB.out.trans (b1.mono QB.out.size))
  have C0 := Lib.hid ((b1.block _ (heap_lt q0)).trans q0)
  have C1 := Lib.hid ((b1.block _ (heap_lt q1)).trans q1)
  clear q0 q1 qb b1 QB
  obtain ⟨k0, k1⟩ := cell2_of C0.out
  obtain ⟨r0, r1⟩ := cell2_of C1.out
  have f0 := frozen2_of C1.out 0
  have f1 := frozen2_of C1.out 1
  have bad : ∀ r : Int, spoilE ss ws n k = r → r ≠ 0 → ∃ d', Ending.returned (.tuple #[.agg #[.slice none 0 0, .slice none 0 0], .int .i64 r]) = .returned (.tuple #[d', .int .i64 (spoilE ss ws n k)]) ∧ DiskAt ((w1.setCell ⟨w.heap.size + 1, 0, none⟩ (.slice none 0 0)).setCell ⟨w.heap.size + 1, 1, none⟩ (.slice none 0 0)) w.heap.size d' (spoilS ss ws n k x) (spoilW ss ws n k) ∧ Below w.heap.size w ((w1.setCell ⟨w.heap.size + 1, 0, none⟩ (.slice none 0 0)).setCell ⟨w.heap.size + 1, 1, none⟩ (.slice none 0 0)) := fun r h h0 =>
    ⟨_, by rw [h], by rw [spoilS, spoilW, h, if_neg h0, if_neg h0]; exact DiskAt.nil_ _ _, below_set2 B1.out (by omega) _ _⟩
  have BAD := Lib.hid bad
  clear bad
  by_cases hm : atE ss ws n = 0
  · have HM := Lib.hid (atE_may hm)
    rw [hm]
    by_cases ha : 0 ≤ k ∧ k < 128
    · have hda : decide (0 ≤ k ∧ k < 128) = true := decide_eq_true ha
      have HE : Hid (spoilE ss ws n k = 0) := Lib.hid (by rw [spoilE, if_pos hm, if_pos ha])
      obtain ⟨i, hi⟩ : ∃ i : Nat, n = (i : Int) := ⟨n.toNat, by have := HM.out.2.1; omega⟩
      obtain ⟨j, hj⟩ : ∃ j : Nat, k = (j : Int) := ⟨k.toNat, by omega⟩
      subst hi hj
      have hj1 : (j : Int) < 128 := ha.2
      have hi1 : (i : Int) < 32 := HM.out.2.2
      clear hm ha
      go_wp2_with (refine (below_any _ _ _).mono ?_; rintro e w' ⟨rfl, rfl⟩)
      refine (twin_apart _ ss ws w1 (B := w.heap.size) B1.out.size (H.out.below B1.out) HM.out.1.fits).mono ?_
      rintro e w2 ⟨y1, y2, m, rfl, hs, hw, hm1, hlt, b2, -⟩
      obtain ⟨A9, c9, rfl⟩ := secs_slice hs
      obtain ⟨A8, c8, rfl⟩ := wts_slice hw
      have hsn := HM.out.1.n
      have hil : i < ss.length := by omega
      have h128 : ss[i].length = 128 := HM.out.1.s _ (List.getElem_mem hil)
      obtain ⟨b, g, cap, cur, rfl, hcell, hgc, hlo, hrow, hset⟩ := (hs.below (below_new w2 (.cells #[.slice A9 ss.length c9, .slice A8 ws.length c8] 29))).at hil (by omega)
      have hgm : g < m := hlt b _ _ i g _ _ rfl hil (by
        have hbl := (hs.low b _ _ rfl (by omega)).2
        rwa [(below_new w2 _).cell (p := ⟨b, i, none⟩) hbl] at hcell)
      have hq0 := heap_alloc_self w2 (.cells #[.slice (some ⟨b, 0, none⟩) ss.length c9, .slice A8 ws.length c8] 29)
      have hqb := below_new w2 (.cells #[.slice (some ⟨b, 0, none⟩) ss.length c9, .slice A8 ws.length c8] 29)
      have hjl : j < ss[i].length := by omega
      have hcj : (w2.alloc (.cells #[.slice (some ⟨b, 0, none⟩) ss.length c9, .slice A8 ws.length c8] 29)).cell? ⟨g, j, none⟩ = some (.int .u8 (ss[i][j].toNat : Int)) := by
        rw [hrow.cellAt j (by omega), List.getElem?_map, List.getElem?_eq_getElem hjl]; rfl
      have hfj := hrow.frozenAt j
      have hstore := hrow.stored j (.int .u8 ((ss[i][j].toNat ^^^ x.toNat : Nat) : Int))
      have hmap : (ss[i].map u8).set j (.int .u8 ((ss[i][j].toNat ^^^ x.toNat : Nat) : Int)) = (ss[i].set j (ss[i][j] ^^^ x)).map u8 := by rw [List.map_set]; simp only [u8, UInt8.toNat_xor]
      rw [hmap] at hstore
      have hxor : bits .xor .u8 (ss[i][j].toNat : Int) (x.toNat : Int) = ((ss[i][j].toNat ^^^ x.toNat : Nat) : Int) := u8_xor_nat _ _ (UInt8.toNat_lt _) (UInt8.toNat_lt _)
      have hturn : turned ss i j x = ss.set i (ss[i].set j (ss[i][j] ^^^ x)) := by rw [turned, modify_set _ _ _ hil, modify_set _ _ _ hjl]
      have hsnew := hset _ (ss[i].set j (ss[i][j] ^^^ x)) (by simp) hstore.1 hstore.2
      have hwnew := wts_grown (hw.below hqb) hstore.2 hgm
      have hbnew := below_set (B := w.heap.size) (B1.out.trans ((b2.trans (hqb.mono b2.size)).mono B1.out.size)) (Nat.le_trans B1.out.size hlo) j (.int .u8 ((ss[i][j].toNat ^^^ x.toNat : Nat) : Int))
      have hg3 := heap_setFar (w2.alloc (.cells #[.slice (some ⟨b, 0, none⟩) ss.length c9, .slice A8 ws.length c8] 29)) g j w2.heap.size (.int .u8 ((ss[i][j].toNat ^^^ x.toNat : Nat) : Int)) (by
        intro e
        rw [← e, hq0] at hgc
        cases hgc)
      have hg4 := heap_setFar (w2.alloc (.cells #[.slice (some ⟨b, 0, none⟩) ss.length c9, .slice A8 ws.length c8] 29)) g j (w.heap.size + 1) (.int .u8 ((ss[i][j].toNat ^^^ x.toNat : Nat) : Int)) (by have := heap_lt C1.out; omega)
      have C4 := hg4.trans (((b2.trans (hqb.mono b2.size)).block _ (heap_lt C1.out)).trans C1.out)
      have C3 := hg3.trans hq0
      obtain ⟨s0, s1⟩ := cell2_of C3
      obtain ⟨t0, t1⟩ := cell2_of C4
      have g0 := frozen2_of C4 0
      have g1 := frozen2_of C4 1
      have SN := Lib.hid hsnew
      have WN := Lib.hid hwnew
      have BN := Lib.hid hbnew
      have C4 := Lib.hid C4
      have HT := Lib.hid hturn
      have HL := Lib.hid (show w.heap.size + 1 < w1.heap.size ∧ w1.heap.size ≤ m from ⟨heap_lt C1.out, hm1⟩)
      have hi0 : (i : Int) < ss.length := by omega
      have hj0 : (j : Int) < ss[i].length := by omega
      have hcap : Hid (ss[i].length = 128) := Lib.hid h128
      clear hs hw hm1 hlt b2 hsn h128 hgc hlo hrow hset hgm hq0 hqb hstore hmap hturn hsnew hwnew hbnew hg3 hg4 C3 k0 k1 r0 r1 f0 f1
      go_wp2_with fail
      refine bodyPost_ret (v := .tuple #[.agg #[.slice (some ⟨b, 0, none⟩) ss.length c9, .slice A8 ws.length c8], .int .i64 0]) ?_ rfl ⟨_, by rw [HE.out], ?_, below_set2 BN.out (Nat.le_succ _) _ _⟩
      · exact results_2_tmp rfl _ _ (w.heap.size + 1) rfl (heap_set2 C4.out _ _) Try.underlying29 infoDisk2 _ rfl
      · rw [spoilS, spoilW, if_pos HE.out, if_pos HE.out]
        refine ⟨_, _, rfl, ?_, ?_⟩
        · show SecsAt _ _ _ (turned ss i j x)
          rw [HT.out]
          have hl := HL.out
          have h := secs_grown SN.out (grown_set2 _ (w.heap.size + 1) (.slice (some ⟨b, 0, none⟩) ss.length c9) (.slice A8 ws.length c8)) (by omega)
          exact h.mono (by omega)
        · have hl := HL.out
          have h := wts_grown WN.out (grown_set2 _ (w.heap.size + 1) (.slice (some ⟨b, 0, none⟩) ss.length c9) (.slice A8 ws.length c8)) (by omega)
          exact h.mono (by omega)
    · have hda : decide (0 ≤ k ∧ k < 128) = false := decide_eq_false ha
      have hE : spoilE ss ws n k = 2 := by rw [spoilE, if_pos hm, if_neg ha]
      have HE := Lib.hid hE
      clear hm hE ha
      go_wp2_with (refine (below_any _ _ _).mono ?_; rintro e w' ⟨rfl, rfl⟩)
      refine bodyPost_ret (v := .tuple #[.agg #[.slice none 0 0, .slice none 0 0], .int .i64 2]) ?_ rfl (BAD.out 2 HE.out (by decide))
      exact results_2_tmp rfl _ _ (w.heap.size + 1) rfl (zero_kept C1.out) Try.underlying29 infoDisk2 _ rfl
  · obtain ⟨r, hr⟩ : ∃ r, r = atE ss ws n := ⟨_, rfl⟩
    rw [← hr] at hm ⊢
    have hE : spoilE ss ws n k = r := by rw [spoilE, if_neg (by rw [← hr]; exact hm), hr]
    have HE := Lib.hid hE
    have hrb : (r == 0) = false := by rw [beq_eq_false_iff_ne]; exact hm
    clear hE hr
    go_wp2_with fail
    refine bodyPost_ret (v := .tuple #[.agg #[.slice none 0 0, .slice none 0 0], .int .i64 r]) ?_ rfl (BAD.out r HE.out hm)
    exact results_2_tmp rfl _ _ (w.heap.size + 1) rfl (zero_kept C1.out) Try.underlying29 infoDisk2 _ rfl
end Go.Proofs.Ytdjoflhcagfmiaa
