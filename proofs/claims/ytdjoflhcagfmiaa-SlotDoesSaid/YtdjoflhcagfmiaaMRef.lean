/-
  The document's own functions: number, byteOf.
  Conditions: none.
-/
import Derived.Test.YtdjoflhcagfmiaaMDev
import Derived.Test.YtdjoflhcagfmiaaMDisk
set_option linter.unusedVariables false
set_option linter.unusedSimpArgs false
set_option maxRecDepth 100000
namespace Go.Proofs.Ytdjoflhcagfmiaa
open Go.RowKit

theorem number_any (n e : Int) (w : World) : Calls Try.prog 63 #[.int .i64 n, .int .i64 e] w fun r w' => r = .returned (.bool (decide (0 ≤ n ∧ n < e))) ∧ w = w' := by
  by_cases h0 : 0 ≤ n
  · by_cases h1 : n < e
    · rw [decide_eq_true (p := 0 ≤ n ∧ n < e) ⟨h0, h1⟩]
      go_enter Try.func63, Try.ntmps63
      go_wp2_with fail
      go_ret
      exact ⟨rfl, rfl⟩
    · rw [decide_eq_false (p := 0 ≤ n ∧ n < e) (fun h => h1 h.2)]
      go_enter Try.func63, Try.ntmps63
      go_wp2_with fail
      go_ret
      exact ⟨rfl, rfl⟩
  · rw [decide_eq_false (p := 0 ≤ n ∧ n < e) (fun h => h0 h.1)]
    go_enter Try.func63, Try.ntmps63
    go_wp2_with fail
    go_ret
    exact ⟨rfl, rfl⟩

theorem txt_byte_ {W : World} {B : Nat} {v : Value} {xs : Bs} (h : Txt W B v xs) {n : Nat} (hn : xs.length = n) {j : Nat} (hj : j < n) : ∃ b o c, v = .slice (some ⟨b, o, none⟩) n c ∧ b < B ∧ W.cell? ⟨b, o + j, none⟩ = some (.int .u8 ((xs[j]'(by omega)).toNat : Int)) := by
  subst hn
  obtain ⟨A, c, rfl, h1, h2, hn, h3⟩ := id h
  obtain ⟨b, o, rfl, hb, hc⟩ := h3 (by omega)
  exact ⟨b, o, c, rfl, hb, hc j hj⟩
/-- How far each write is kept: none told, all of them. -/
def keptK (ws : List Wr) (ks : List Int) : List Nat := if ks = [] then all128 ws else ks.map Int.toNat
theorem keptK_length {ws : List Wr} {ks : List Int} (h : ks = [] ∨ ks.length = ws.length) : (keptK ws ks).length = ws.length := by
  rw [keptK]
  split
  · rw [all128, List.length_replicate]
  · next hne =>
    rcases h with h | h
    · exact absurd h hne
    · rw [List.length_map, h]
theorem byteAll_step {ws : List Wr} {ks : List Int} {i a j : Nat} {b : UInt8} (hl : ks = [] ∨ ks.length = ws.length) (hi : i < ws.length) (hw : okW ws[i]) (hj : j < 128) :
    byteAll b a j ((piecesOf ws (keptK ws ks)).take (i + 1)) = if ws[i].1 = (a : Int) ∧ (ks = [] ∨ (j : Int) < ks.getD i 0) then ws[i].2.getD j 0 else byteAll b a j ((piecesOf ws (keptK ws ks)).take i) := by
  have hk : i < (keptK ws ks).length := by rw [keptK_length hl]; exact hi
  have e := piecesOf_at (ws := ws) (ks := keptK ws ks) hi hk
  rw [List.take_add_one, e]
  show byteAll b a j (_ ++ [_]) = _
  rw [byteAll_snoc]
  have h1 := hw.1
  have h2 := hw.2.2
  have hA : ((ws[i].1.toNat, ws[i].2.take (keptK ws ks)[i]).1 = a ∧ j < (ws[i].1.toNat, ws[i].2.take (keptK ws ks)[i]).2.length) ↔ (ws[i].1 = (a : Int) ∧ (ks = [] ∨ (j : Int) < ks.getD i 0)) := by
    show (ws[i].1.toNat = a ∧ j < (ws[i].2.take (keptK ws ks)[i]).length) ↔ _
    rw [List.length_take]
    have hK : (ks = [] → (keptK ws ks)[i] = 128) ∧ (ks ≠ [] → (keptK ws ks)[i] = (ks.getD i 0).toNat) := by
      refine ⟨fun e => ?_, fun e => ?_⟩
      · simp only [keptK, if_pos e, all128, List.getElem_replicate]
      · have hik : i < ks.length := by exact hl.elim (fun h => absurd h e) (fun h => by omega)
        simp only [keptK, if_neg e, List.getElem_map, List.getD_eq_getElem?_getD, List.getElem?_eq_getElem hik, Option.getD_some]
    by_cases e : ks = []
    · have := hK.1 e
      constructor
      · intro h; exact ⟨by omega, .inl e⟩
      · intro h; exact ⟨by omega, by omega⟩
    · have := hK.2 e
      constructor
      · intro h; exact ⟨by omega, .inr (by omega)⟩
      · intro h
        rcases h.2 with h' | h'
        · exact absurd h' e
        · exact ⟨by omega, by omega⟩
  by_cases hc : ws[i].1 = (a : Int) ∧ (ks = [] ∨ (j : Int) < ks.getD i 0)
  · rw [if_pos hc, if_pos (hA.2 hc)]
    show (ws[i].2.take (keptK ws ks)[i]).getD j 0 = _
    have hj2 := (hA.2 hc).2
    have hj3 : j < (ws[i].2.take (keptK ws ks)[i]).length := hj2
    have hj4 : j < ws[i].2.length := by omega
    rw [List.getD_eq_getElem?_getD, List.getD_eq_getElem?_getD, List.getElem?_eq_getElem hj3, List.getElem?_eq_getElem hj4, List.getElem_take]
  · rw [if_neg hc, if_neg (fun h => hc (hA.1 h))]

set_option maxRecDepth 100000 in
set_option maxHeartbeats 1000000 in
theorem byteOf_any (d kv : Value) (ss : List Bs) (ws : List Wr) (ks : List Int) (w : World) (h : DiskIn w w.heap.size d ss ws) (hk : NumsIn w w.heap.size kv ks) (hm : May ss ws) (hl : ks = [] ∨ ks.length = ws.length) {a j : Nat} (ha : a < ss.length) (hj : j < ss[a].length) :
    Calls Try.prog 99 #[d, kv, .int .i64 (a : Int), .int .i64 (j : Int)] w fun e w' => e = .returned (.int .u8 ((byteAll ss[a][j] a j (piecesOf ws (keptK ws ks))).toNat : Int)) ∧ Below w.heap.size w w' := by
  obtain ⟨v1, v2, rfl, h1, h2⟩ := h
  have H1 := Lib.hid h1
  have H2 := Lib.hid h2
  have K := Lib.hid hk
  have HM := Lib.hid hm
  have HL := Lib.hid hl
  obtain ⟨A2, c2, rfl, -, -, -, -⟩ := h2
  obtain ⟨A3, c3, rfl, -, -, -, -⟩ := hk
  have hs128 : ss[a].length = 128 := hm.s _ (List.getElem_mem ha)
  obtain ⟨A1, c1, rfl, -, -, -, -⟩ := id h1
  obtain ⟨g2, o2, u2, hA, hg2, hc2, ht2⟩ := H1.out.at ha
  subst hA
  obtain ⟨g4, o4, c4, rfl, hg4, hb4⟩ := txt_byte_ ht2 hs128 (j := j) (by omega)
  obtain ⟨b0, hb0⟩ : ∃ b0 : UInt8, b0 = ss[a][j] := ⟨_, rfl⟩
  rw [← hb0] at hb4 ⊢
  have hq0 := heap_alloc_self w (.cells #[.slice (some ⟨g2, o2, none⟩) ss.length c1, .slice A2 ws.length c2] 29)
  have hqb := below_new w (.cells #[.slice (some ⟨g2, o2, none⟩) ss.length c1, .slice A2 ws.length c2] 29)
  have hcs := (hqb.cell (p := ⟨g2, o2 + a, none⟩) hg2).trans hc2
  have hcb := (hqb.cell (p := ⟨g4, o4 + j, none⟩) hg4).trans hb4
  obtain ⟨k0, k1⟩ := cell2_of hq0
  have hai : (a : Int) < ss.length := by omega
  have hji : (j : Int) < 128 := by omega
  have hj128 : j < 128 := by omega
  obtain ⟨ps, hps⟩ : ∃ ps, ps = piecesOf ws (keptK ws ks) := ⟨_, rfl⟩
  have HPS := Lib.hid hps
  have hpl : ps.length = ws.length := by rw [hps, piecesOf_length _ _ (keptK_length hl).symm]
  have HPL := Lib.hid hpl
  rw [← hps]
  have Q := Lib.hid hqb
  have R := Lib.hid hq0
  have hwl : (ws.length : Int) ≤ 256 := by have := hm.m; omega
  clear h1 ht2 hb0 hps hpl hc2 hb4 hqb hq0 hm hl hj ha hs128
  go_enter Try.func99, Try.ntmps99
  go_wp2_with fail
  generalize w.alloc (.cells #[.slice (some ⟨g2, o2, none⟩) ss.length c1, .slice A2 ws.length c2] 29) = q at Q R k0 k1 hcs hcb ⊢
  clear k0 k1 hcs hcb
  go_loopw [9, 10] (fun s9 s10 wr => ∃ i : Nat, i ≤ ws.length ∧ s10 = .int .i64 i ∧ s9 = .int .u8 ((byteAll b0 a j (ps.take i)).toNat : Int) ∧ wr = q) (fun _ s10 _ => ws.length - (intOf s10).toNat)
  case atStart => exact ⟨0, by omega, by go_num, rfl, rfl⟩
  case round =>
    obtain ⟨i, hi, rfl, rfl, rfl⟩ := hrel
    obtain ⟨k0, k1⟩ := cell2_of R.out
    by_cases hlt : i < ws.length
    · have hlt' : (i : Int) < ws.length := by omega
      have hokw : okW ws[i] := HM.out.w _ (List.getElem_mem hlt)
      have hstep := byteAll_step (b := b0) (a := a) (j := j) HL.out hlt hokw hj128
      rw [← HPS.out] at hstep
      have hl3 := hokw.2.2
      obtain ⟨g3, o3, u3, hA, hg3, hd0, hd1, ht⟩ := H2.out.at hlt
      subst hA
      have hdi := (Q.out.cell (p := ⟨g3, o3 + i * 2, none⟩) hg3).trans hd0
      have hdj := (Q.out.cell (p := ⟨g3, o3 + i * 2 + 1, none⟩) hg3).trans hd1
      obtain ⟨g5, o5, c5, rfl, hg5, hb5⟩ := txt_byte_ ht hl3 (j := j) hj128
      have hcb := (Q.out.cell (p := ⟨g5, o5 + j, none⟩) hg5).trans hb5
      obtain ⟨z, hz⟩ : ∃ z, z = ws[i].2[j]'(by omega) := ⟨_, rfl⟩
      have hzD : ws[i].2.getD j 0 = z := by rw [hz, List.getD_eq_getElem?_getD, List.getElem?_eq_getElem (by omega)]; rfl
      rw [← hz] at hcb
      rw [hzD] at hstep
      clear hokw hl3 hd0 hd1 ht hb5 hz hzD hg3 hg5
      by_cases hat : (ws[i]).1 = (a : Int)
      · rw [hat] at hdi
        by_cases he : ks = []
        · rw [if_pos ⟨hat, .inl he⟩] at hstep
          have HS := Lib.hid hstep
          have hk0 : ks.length = 0 := by rw [he]; rfl
          clear hstep hat he
          go_wp2_with fail
          go_roundw
          case measure => simp [intOf]; omega
          case rel => exact ⟨i + 1, by omega, by go_num, by rw [HS.out], by first | rfl | trivial⟩
        · have hik : i < ks.length := HL.out.elim (fun h => absurd h he) (fun h => by omega)
          have hik' : (i : Int) < ks.length := by omega
          have hk0 : ((ks.length : Int) == 0) = false := by rw [beq_eq_false_iff_ne]; omega
          obtain ⟨g6, o6, hA, hg6, hk6⟩ := K.out.at hik
          subst hA
          have hki := (Q.out.cell (p := ⟨g6, o6 + i, none⟩) hg6).trans hk6
          obtain ⟨y, hy⟩ : ∃ y, y = ks[i] := ⟨_, rfl⟩
          have hyD : ks.getD i 0 = y := by rw [hy, List.getD_eq_getElem?_getD, List.getElem?_eq_getElem hik]; rfl
          rw [← hy] at hki
          rw [hyD] at hstep
          clear hk6 hg6 hy hyD
          by_cases hjy : (j : Int) < y
          · rw [if_pos ⟨hat, .inr hjy⟩] at hstep
            have HS := Lib.hid hstep
            clear hstep hat he hik
            go_wp2_with fail
            go_roundw
            case measure => simp [intOf]; omega
            case rel => exact ⟨i + 1, by omega, by go_num, by rw [HS.out], by first | rfl | trivial⟩
          · rw [if_neg (fun h => h.2.elim he hjy)] at hstep
            have HS := Lib.hid hstep
            have hjy' : decide ((j : Int) < y) = false := decide_eq_false hjy
            clear hstep hat he hik
            go_wp2_with fail
            go_roundw
            case measure => simp [intOf]; omega
            case rel => exact ⟨i + 1, by omega, by go_num, by rw [HS.out], by first | rfl | trivial⟩
      · rw [if_neg (fun h => hat h.1)] at hstep
        have HS := Lib.hid hstep
        have hat' : ((ws[i]).1 == (a : Int)) = false := by rw [beq_eq_false_iff_ne]; exact hat
        obtain ⟨y, hy⟩ : ∃ y, y = (ws[i]).1 := ⟨_, rfl⟩
        rw [← hy] at hdi hat'
        clear hstep hat hy
        go_wp2_with fail
        go_roundw
        case measure => simp [intOf]; omega
        case rel => exact ⟨i + 1, by omega, by go_num, by rw [HS.out], by first | rfl | trivial⟩
    · obtain rfl : i = ws.length := by omega
      have hlt2 : decide ((ws.length : Int) < ws.length) = false := by simp
      have e : ps.take ws.length = ps := by rw [List.take_of_length_le (Nat.le_of_eq HPL.out)]
      rw [e]
      clear e
      go_wp2_with fail
      go_ret
      exact ⟨rfl, Q.out⟩
end Go.Proofs.Ytdjoflhcagfmiaa

/-
  The document's own functions: row (a sector that comes by numbers).
  Conditions: none.
-/
set_option linter.unusedVariables false
set_option linter.unusedSimpArgs false
set_option maxRecDepth 100000
namespace Go.Proofs.Ytdjoflhcagfmiaa
open Go.RowKit

/-- A sector that comes by numbers. -/
def rowR (ss : List Bs) (ws : List Wr) (ks : List Int) (a : Nat) : Bs := seeAll (ss.getD a []) a (piecesOf ws (keptK ws ks))
theorem rowR_length {ss : List Bs} {ws : List Wr} {ks : List Int} {a : Nat} (hm : May ss ws) (ha : a < ss.length) : (rowR ss ws ks a).length = 128 := by
  have hs : (ss.getD a []).length = 128 := by
    rw [List.getD_eq_getElem?_getD, List.getElem?_eq_getElem ha]
    exact hm.s _ (List.getElem_mem ha)
  rw [rowR, seeAll_length (fun p hp => by rw [hs]; exact (pieces_le hm.w p hp).1), hs]
theorem own_snocR {w : World} {base e i : Nat} {v : Value} {R : Bs} {b : UInt8} (h : w.ownsRow base e 1 v (i + 1) ((R.take i).map u8 ++ [.int .u8 (b.toNat : Int)])) (hb : R[i]? = some b) : w.ownsRow base e 1 v (i + 1) ((R.take (i + 1)).map u8) := by
  rw [List.take_add_one, hb, List.map_append]
  exact h

set_option maxRecDepth 100000 in
set_option maxHeartbeats 1000000 in
theorem row_any (d kv : Value) (ss : List Bs) (ws : List Wr) (ks : List Int) (w : World) (h : DiskIn w w.heap.size d ss ws) (hk : NumsIn w w.heap.size kv ks) (hm : May ss ws) (hl : ks = [] ∨ ks.length = ws.length) {a : Nat} (ha : a < ss.length) :
    Calls Try.prog 90 #[d, kv, .int .i64 (a : Int)] w fun e w' => ∃ y, e = .returned y ∧ w'.ownsRow w.heap.size 5 1 y 128 ((rowR ss ws ks a).map u8) ∧ Below w.heap.size w w' := by
  obtain ⟨v1, v2, rfl, h1, h2⟩ := id h
  obtain ⟨i0, hi, hz0, hz1, hz2⟩ := info_parts infoByte
  have I0 := Lib.hid hi
  have I1 := Lib.hid hz0
  have I2 := Lib.hid hz1
  have I3 := Lib.hid hz2
  have H := Lib.hid h
  have K := Lib.hid hk
  have HM := Lib.hid hm
  have HL := Lib.hid hl
  have HA := Lib.hid ha
  have hs128 : ss[a].length = 128 := hm.s _ (List.getElem_mem ha)
  have H128 := Lib.hid hs128
  obtain ⟨R, hR⟩ : ∃ R, R = rowR ss ws ks a := ⟨_, rfl⟩
  have HR := Lib.hid (show R.length = 128 by rw [hR]; exact rowR_length hm ha)
  have HB : Hid (∀ j, ∀ hj : j < ss[a].length, R[j]? = some (byteAll ss[a][j] a j (piecesOf ws (keptK ws ks)))) := Lib.hid (fun j hj => by
    rw [hR, rowR, List.getD_eq_getElem?_getD, List.getElem?_eq_getElem ha]
    exact seeAll_at (List.getElem?_eq_getElem hj))
  rw [← hR]
  obtain ⟨A1, c1, rfl, -, -, -, -⟩ := h1
  obtain ⟨A2, c2, rfl, -, -, -, -⟩ := h2
  have hq0 := heap_alloc_self w (.cells #[.slice A1 ss.length c1, .slice A2 ws.length c2] 29)
  have hqb := below_new w (.cells #[.slice A1 ss.length c1, .slice A2 ws.length c2] 29)
  have hqs : w.heap.size ≤ (w.alloc (.cells #[.slice A1 ss.length c1, .slice A2 ws.length c2] 29)).heap.size := hqb.size
  have Q := Lib.hid hqb
  have C := Lib.hid hq0
  clear h hk hm hl ha hs128 hR hi hz0 hz1 hz2 hqb hq0 hqs
  go_enter Try.func90, Try.ntmps90
  go_wp2_with fail
  generalize w.alloc (.cells #[.slice A1 ss.length c1, .slice A2 ws.length c2] 29) = q at Q C ⊢
  go_loopw [7, 8] (fun s7 s8 wr => ∃ i : Nat, i ≤ 128 ∧ s8 = .int .i64 i ∧ wr.ownsRow q.heap.size 5 1 s7 i ((R.take i).map u8) ∧ Below q.heap.size q wr) (fun _ s8 _ => 128 - (intOf s8).toNat)
  case atStart => exact ⟨0, by omega, by go_num, World.ownsRow_nil _ _ _ _, Below.refl _ _⟩
  case round =>
    obtain ⟨i, hi, rfl, ho, hb⟩ := hrel
    obtain ⟨A3, c3, rfl⟩ := own_slice_ ho
    have HO := Lib.hid ho
    have HBL := Lib.hid hb
    have HW := Lib.hid (Q.out.trans (hb.mono Q.out.size))
    obtain ⟨k0, k1⟩ := cell2_of ((hb.block _ (heap_lt C.out)).trans C.out)
    clear ho hb
    by_cases hlt : i < 128
    · have hlt' : (i : Int) < 128 := by omega
      have hij : i < (ss[a]'(HA.out)).length := by have := H128.out; omega
      obtain ⟨b, hRi, hcall⟩ : ∃ b : UInt8, R[i]? = some b ∧ Calls Try.prog 99 #[.agg #[.slice A1 ss.length c1, .slice A2 ws.length c2], kv, .int .i64 (a : Int), .int .i64 (i : Int)] wr fun e w' => e = .returned (.int .u8 (b.toNat : Int)) ∧ Below wr.heap.size wr w' :=
        ⟨_, HB.out i hij, byteOf_any _ _ ss ws ks wr ((H.out.below HW.out).more HW.out.size) ((K.out.below HW.out).more HW.out.size) HM.out HL.out HA.out hij⟩
      have HCALL := Lib.hid hcall
      clear hcall
      go_wp2_with fail
      refine HCALL.out.mono ?_
      rintro e wA ⟨rfl, bA⟩
      have HRI := Lib.hid hRi
      have OA := Lib.hid (owns_below HO.out bA)
      have BA := Lib.hid (HBL.out.trans (bA.mono HBL.out.size))
      clear hRi bA k0 k1 hij
      go_wp2_with ((with_reducible show wpList _ _ _ (⟨some 20, _, _, _, _, _⟩ :: _) _ _); refine wpList_append_any rfl (.tmp 13) (.tmp 19) _ rfl Try.underlying34 I0.out I1.out rfl I2.out (by decide) I3.out (by decide) rfl (OA.out.alloc _) (m := 1) rfl (news := [.int .u8 (b.toNat : Int)]) rfl (fun j u hj => by rw [World.cell?_alloc_new]; simpa using hj) (by simp [Value.oneCell']) (by omega) (by have := BA.out.size; simp; omega) ?_; intro v4 w4 hown4 hgrow4)
      have O4 := Lib.hid (own_snocR hown4 HRI.out)
      have B4 := Lib.hid ((BA.out.alloc BA.out.size (.cells #[.int .u8 (b.toNat : Int)] 5)).grown hgrow4 (Nat.le_trans BA.out.size (by simp)) (own_ge OA.out))
      obtain ⟨A5, c5, h5⟩ := own_slice_ hown4
      subst h5
      clear hown4 hgrow4
      go_roundw
      case measure => simp [intOf]; omega
      case rel => exact ⟨i + 1, by omega, by go_num, O4.out, B4.out⟩
    · obtain rfl : i = 128 := by omega
      have hlt' : ¬ ((128 : Nat) : Int) < 128 := by omega
      have hfin : wr.ownsRow w.heap.size 5 1 (.slice A3 128 c3) 128 (R.map u8) := by
        have h := HO.out
        rw [List.take_of_length_le (Nat.le_of_eq HR.out)] at h
        exact owns_mono h Q.out.size
      have HF := Lib.hid hfin
      clear hfin
      go_wp2_with fail
      go_ret
      exact ⟨_, rfl, HF.out, HW.out⟩
end Go.Proofs.Ytdjoflhcagfmiaa

/-
  A disk under construction, in a box: a sector, or a write, put behind the others.
  Conditions: none.
-/
set_option linter.unusedVariables false
set_option linter.unusedSimpArgs false
set_option maxRecDepth 100000
namespace Go.Proofs.Ytdjoflhcagfmiaa
open Go.RowKit

theorem wts_kept {W W' : World} {lo : Nat} {v v0 : Value} {ws : List Wr} {b e size n : Nat} {xs : List Value} (h : WtsAt W lo v ws) (h0 : W.ownsRow b e size v0 n xs) (h1 : 52 ≠ e) (h2 : 5 ≠ e) (hg : W.grownBy W' v0.ownBlock) : WtsAt W' lo v ws := by
  obtain ⟨ys, ho, hl, hm, he⟩ := h
  exact ⟨ys, ho.kept hg (owns_apart h1 ho h0), hl, hm, fun j y s h3 h4 => ⟨(he j y s h3 h4).1.kept hg (owns_apart h2 (he j y s h3 h4).1 h0), (he j y s h3 h4).2⟩⟩

/-- What is left of a box behind an append to a row of its own. -/
theorem box_row {W w1 w5 : World} {p lo e size n m : Nat} {c : Array Value} {t : TypeId} {v v5 : Value} {ys zs : List Value} {o : Obj} (hp : p < lo) (hc : W.heap[p]? = some (.cells c t (0, 0))) (ho : W.ownsRow lo e size v n ys) (hlo : lo ≤ W.heap.size) (hb1 : Below W.heap.size W w1)
    (hgr : (w1.alloc o).grownBy w5 v.ownBlock) : w5.heap[p]? = some (.cells c t (0, 0)) ∧ Below lo W w5 := by
  have hb2 : Below W.heap.size W (w1.alloc o) := hb1.alloc hb1.size o
  refine ⟨(hgr.block p (Nat.lt_of_lt_of_le (heap_lt hc) hb2.size) (fun e => by have := own_ge ho p e.symm; omega)).trans ((hb2.block p (heap_lt hc)).trans hc), ?_⟩
  exact (hb2.mono hlo).grown hgr (Nat.le_trans hlo hb2.size) (own_ge ho)

theorem box_secs {W w1 w5 : World} {p lo : Nat} {v v2 v5 y : Value} {ss : List Bs} {s : Bs} {ws : List Wr} {ys : List Value} {o : Obj} (hp : p < lo) (hc : W.heap[p]? = some (.cells #[v, v2] 29 (0, 0)))
    (ho : W.ownsRow lo 34 1 v ss.length ys) (hl : ys.length = ss.length)
    (he : ∀ (j : Nat) (y : Value) (s : Bs), ys[j]? = some y → ss[j]? = some s → W.ownsRow lo 5 1 y s.length (s.map u8) ∧ s.length ≤ maxLen)
    (hd : ∀ (i j : Nat) (y z : Value) (b : Nat), ys[i]? = some y → ys[j]? = some z → y.ownBlock = some b → z.ownBlock = some b → i = j)
    (hw : WtsAt W lo v2 ws) (hlo : lo ≤ W.heap.size) (hb1 : Below W.heap.size W w1) (hy : w1.ownsRow W.heap.size 5 1 y s.length (s.map u8)) (hs : s.length ≤ maxLen) (hmx : ss.length + 1 ≤ maxLen)
    (hown : w5.ownsRow lo 34 1 v5 (ss.length + 1) (ys ++ [y])) (hgr : (w1.alloc o).grownBy w5 v.ownBlock) :
    w5.heap[p]? = some (.cells #[v, v2] 29 (0, 0)) ∧ Below lo W w5 ∧ (w5.setCell ⟨p, 0, none⟩ v5).heap[p]? = some (.cells #[v5, v2] 29 (0, 0)) ∧ SecsAt (w5.setCell ⟨p, 0, none⟩ v5) lo v5 (ss ++ [s]) ∧ WtsAt (w5.setCell ⟨p, 0, none⟩ v5) lo v2 ws ∧ Below p W (w5.setCell ⟨p, 0, none⟩ v5) ∧ lo ≤ (w5.setCell ⟨p, 0, none⟩ v5).heap.size := by
  have hv : (w1.alloc o).ownsRow lo 34 1 v ss.length ys := (owns_below ho hb1).alloc o
  obtain ⟨h1, h2⟩ := box_row (m := 0) (v5 := v5) (zs := []) hp hc ho hlo hb1 hgr
  have hg := grown_set w5 p 0 v5
  refine ⟨h1, h2, heap_setA h1 v5, secs_grown (secs_snoc ho hl he hd hlo hb1 hy hs hmx hown hgr) hg hp, wts_grown (wts_kept ((hw.below hb1).below (below_new w1 o)) hv (by decide) (by decide) hgr) hg hp, below_set (h2.mono (by omega)) (Nat.le_refl _) 0 v5, ?_⟩
  exact Nat.le_trans (Nat.le_trans hlo h2.size) hg.size

theorem box_wts {W w1 w5 : World} {p lo : Nat} {v1 v v5 y : Value} {ss : List Bs} {x : Wr} {ws : List Wr} {ys : List Value} {o : Obj} (hp : p < lo) (hc : W.heap[p]? = some (.cells #[v1, v] 29 (0, 0)))
    (ho : W.ownsRow lo 52 2 v ws.length (wcells ws ys)) (hl : ys.length = ws.length)
    (he : ∀ (j : Nat) (y : Value) (w : Wr), ys[j]? = some y → ws[j]? = some w → W.ownsRow lo 5 1 y w.2.length (w.2.map u8) ∧ w.2.length ≤ maxLen)
    (hss : SecsAt W lo v1 ss) (hlo : lo ≤ W.heap.size) (hb1 : Below W.heap.size W w1) (hy : w1.ownsRow W.heap.size 5 1 y x.2.length (x.2.map u8)) (hs : x.2.length ≤ maxLen) (hmx : ws.length + 1 ≤ maxLen)
    (hown : w5.ownsRow lo 52 2 v5 (ws.length + 1) (wcells ws ys ++ [.int .i64 x.1, y])) (hgr : (w1.alloc o).grownBy w5 v.ownBlock) :
    w5.heap[p]? = some (.cells #[v1, v] 29 (0, 0)) ∧ Below lo W w5 ∧ (w5.setCell ⟨p, 1, none⟩ v5).heap[p]? = some (.cells #[v1, v5] 29 (0, 0)) ∧ SecsAt (w5.setCell ⟨p, 1, none⟩ v5) lo v1 ss ∧ WtsAt (w5.setCell ⟨p, 1, none⟩ v5) lo v5 (ws ++ [x]) ∧ Below p W (w5.setCell ⟨p, 1, none⟩ v5) ∧ lo ≤ (w5.setCell ⟨p, 1, none⟩ v5).heap.size := by
  have hv : (w1.alloc o).ownsRow lo 52 2 v ws.length (wcells ws ys) := (owns_below ho hb1).alloc o
  obtain ⟨h1, h2⟩ := box_row (m := 0) (v5 := v5) (zs := []) hp hc ho hlo hb1 hgr
  have hg := grown_set w5 p 1 v5
  refine ⟨h1, h2, heap_setB h1 v5, secs_grown (secs_kept ((hss.below hb1).below (below_new w1 o)) hv (by decide) (by decide) hgr) hg hp, wts_grown (wts_snoc ho hl he hlo hb1 hy hs hmx hown hgr) hg hp, below_set (h2.mono (by omega)) (Nat.le_refl _) 1 v5, ?_⟩
  exact Nat.le_trans (Nat.le_trans hlo h2.size) hg.size
end Go.Proofs.Ytdjoflhcagfmiaa

/-
  The document's own functions: May, Check.
  Conditions: none.
-/
set_option linter.unusedVariables false
set_option linter.unusedSimpArgs false
set_option maxRecDepth 100000
namespace Go.Proofs.Ytdjoflhcagfmiaa
open Go.RowKit

set_option maxHeartbeats 8000000 in
theorem rmay_any (d : Value) (ss : List Bs) (ws : List Wr) (w : World) (hd : DiskIn w w.heap.size d ss ws) :
    Calls Try.prog 39 #[d] w fun e w' => e = .returned (.bool (mayB ss ws)) ∧ Below w.heap.size w w' := by
  obtain ⟨v1, v2, rfl, h1, h2⟩ := hd
  have H1 := Lib.hid h1
  have H2 := Lib.hid h2
  obtain ⟨A1, c1, rfl, -, -, -, -⟩ := h1
  obtain ⟨A2, c2, rfl, -, -, -, -⟩ := h2
  have hq0 := heap_alloc_self w (.cells #[.slice A1 ss.length c1, .slice A2 ws.length c2] 29)
  have Q := Lib.hid (below_new w (.cells #[.slice A1 ss.length c1, .slice A2 ws.length c2] 29))
  have C := Lib.hid hq0
  obtain ⟨k0, k1⟩ := cell2_of hq0
  have hmaxs : (ss.length : Int) ≤ 9223372036854775807 := by have := H1.out.le; unfold maxLen at *; omega
  have hmaxw : (ws.length : Int) ≤ 9223372036854775807 := by have := H2.out.le; unfold maxLen at *; omega
  clear hq0
  by_cases hn : ss.length = 32
  · by_cases hm : ws.length ≤ 256
    · have hn' : (ss.length : Int) = 32 := by omega
      have hm' : (ws.length : Int) ≤ 256 := by omega
      have HN := Lib.hid hn
      have HMX := Lib.hid hm
      clear hn hm
      go_enter Try.func39, Try.ntmps39
      go_wp2_with fail
      generalize w.alloc (.cells #[.slice A1 ss.length c1, .slice A2 ws.length c2] 29) = q at Q C k0 k1 ⊢
      clear k0 k1
      go_loopw [3, 4] (fun s3 s4 wr => ∃ (i : Nat) (g : Bool), i ≤ ss.length ∧ s4 = .int .i64 i ∧ s3 = .bool g ∧ (g = true → ∀ j, ∀ hj : j < ss.length, j < i → ss[j].length = 128) ∧ (g = false → mayB ss ws = false) ∧ wr = q) (fun _ s4 _ => ss.length - (intOf s4).toNat)
      case atStart => exact ⟨0, true, by omega, by go_num, rfl, fun _ j hj h0 => by omega, fun h => (by cases h), rfl⟩
      case round =>
        obtain ⟨i, g, hi, rfl, rfl, hyes, hno, rfl⟩ := hrel
        have YES := Lib.hid hyes
        have NO := Lib.hid hno
        clear hyes hno
        obtain ⟨k0, k1⟩ := cell2_of C.out
        cases g with
        | false =>
          by_cases hpos : (i : Int) < ss.length
          · go_wp2_with fail
            clear k0 k1
            go_loopw [3, 5] (fun s3 s5 wx => s3 = .bool false ∧ s5 = .int .i64 0 ∧ wx = wr) (fun _ _ _ => 0)
            case atStart => exact ⟨rfl, rfl, rfl⟩
            case round =>
              obtain ⟨rfl, rfl, rfl⟩ := hrel
              obtain ⟨k0, k1⟩ := cell2_of C.out
              by_cases hpos : (0 : Int) < ws.length
              · go_wp2_with fail
                go_ret
                exact ⟨by rw [NO.out (by first | rfl | trivial)]; rfl, Q.out⟩
              · have hpos' : decide ((0 : Int) < ws.length) = false := decide_eq_false hpos
                go_wp2_with fail
                go_ret
                exact ⟨by rw [NO.out (by first | rfl | trivial)]; rfl, Q.out⟩
          · have hpos' : decide ((i : Int) < ss.length) = false := decide_eq_false hpos
            go_wp2_with fail
            clear k0 k1 hpos'
            go_loopw [3, 5] (fun s3 s5 wx => s3 = .bool false ∧ s5 = .int .i64 0 ∧ wx = wr) (fun _ _ _ => 0)
            case atStart => exact ⟨rfl, rfl, rfl⟩
            case round =>
              obtain ⟨rfl, rfl, rfl⟩ := hrel
              obtain ⟨k0, k1⟩ := cell2_of C.out
              by_cases hpos : (0 : Int) < ws.length
              · go_wp2_with fail
                go_ret
                exact ⟨by rw [NO.out (by first | rfl | trivial)]; rfl, Q.out⟩
              · have hpos' : decide ((0 : Int) < ws.length) = false := decide_eq_false hpos
                go_wp2_with fail
                go_ret
                exact ⟨by rw [NO.out (by first | rfl | trivial)]; rfl, Q.out⟩
        | true =>
          by_cases hlt : i < ss.length
          · have hlt' : (i : Int) < ss.length := by omega
            obtain ⟨b, off, u, rfl, hbb, hc, ht⟩ := (H1.out.below Q.out).at hlt
            obtain ⟨A3, c3, rfl, -, -, -, -⟩ := ht
            by_cases hl : ss[i].length = 128
            · have hl' : (ss[i].length : Int) = 128 := by omega
              have HLI := Lib.hid hl
              clear hl
              go_wp2_with fail
              go_roundw
              case measure => simp [intOf]; omega
              case rel => exact ⟨i + 1, true, by omega, by go_num, rfl, fun _ j hj h' => by
                rcases Nat.lt_or_ge j i with h2 | h2
                · exact YES.out (by first | rfl | trivial) j hj h2
                · obtain rfl : j = i := by omega
                  exact HLI.out, fun h => (by cases h), by first | rfl | trivial⟩
            · have hl' : ((ss[i].length : Int) == 128) = false := by rw [beq_eq_false_iff_ne]; omega
              have HNO := Lib.hid (mayB_s (ws := ws) hlt hl)
              clear hl
              go_wp2_with fail
              go_roundw
              case measure => simp [intOf]; omega
              case rel => exact ⟨i + 1, false, by omega, by go_num, rfl, fun h => (by cases h), fun _ => HNO.out, by first | rfl | trivial⟩
          · have hpos' : decide ((i : Int) < ss.length) = false := decide_eq_false (by omega)
            go_wp2_with fail
            clear k0 k1 hpos'
            go_loopw [3, 5] (fun s3 s5 wx => ∃ (k : Nat) (g2 : Bool), k ≤ ws.length ∧ s5 = .int .i64 k ∧ s3 = .bool g2 ∧ (g2 = true → ∀ j, ∀ hj : j < ws.length, j < k → okW ws[j]) ∧ (g2 = false → mayB ss ws = false) ∧ wx = wr) (fun _ s5 _ => ws.length - (intOf s5).toNat)
            case atStart => exact ⟨0, true, by omega, by go_num, rfl, fun _ j hj h0 => by omega, fun h => (by cases h), rfl⟩
            case round =>
              obtain ⟨k, g2, hk, rfl, rfl, hy2, hn2, rfl⟩ := hrel
              have Y2 := Lib.hid hy2
              have N2 := Lib.hid hn2
              clear hy2 hn2
              obtain ⟨k0, k1⟩ := cell2_of C.out
              cases g2 with
              | false =>
                by_cases hpos : (k : Int) < ws.length
                · go_wp2_with fail
                  go_ret
                  exact ⟨by rw [N2.out (by first | rfl | trivial)]; rfl, Q.out⟩
                · have hpos' : decide ((k : Int) < ws.length) = false := decide_eq_false hpos
                  go_wp2_with fail
                  go_ret
                  exact ⟨by rw [N2.out (by first | rfl | trivial)]; rfl, Q.out⟩
              | true =>
                by_cases hlt : k < ws.length
                · have hlt' : (k : Int) < ws.length := by omega
                  obtain ⟨b, off, u, rfl, hbb, hc0, hc1, ht⟩ := (H2.out.below Q.out).at hlt
                  obtain ⟨A3, c3, rfl, -, -, -, -⟩ := ht
                  by_cases ha : 0 ≤ ws[k].1 ∧ ws[k].1 < 32
                  · have hda : decide (0 ≤ ws[k].1 ∧ ws[k].1 < 32) = true := decide_eq_true ha
                    by_cases hl : ws[k].2.length = 128
                    · have hl' : (ws[k].2.length : Int) = 128 := by omega
                      have HOK := Lib.hid (show okW ws[k] from ⟨ha.1, ha.2, hl⟩)
                      clear hl ha
                      go_wp2_with fail
                      refine (number_any _ _ _).mono ?_
                      rintro e w' ⟨rfl, rfl⟩
                      go_wp2_with fail
                      go_roundw
                      case measure => simp [intOf]; omega
                      case rel => exact ⟨k + 1, true, by omega, by go_num, rfl, fun _ j hj h' => by
                        rcases Nat.lt_or_ge j k with h2 | h2
                        · exact Y2.out (by first | rfl | trivial) j hj h2
                        · obtain rfl : j = k := by omega
                          exact HOK.out, fun h => (by cases h), by first | rfl | trivial⟩
                    · have hl' : ((ws[k].2.length : Int) == 128) = false := by rw [beq_eq_false_iff_ne]; omega
                      have HNO := Lib.hid (mayB_w (ss := ss) hlt (fun h => hl h.2.2))
                      clear hl ha
                      go_wp2_with fail
                      refine (number_any _ _ _).mono ?_
                      rintro e w' ⟨rfl, rfl⟩
                      go_wp2_with fail
                      go_roundw
                      case measure => simp [intOf]; omega
                      case rel => exact ⟨k + 1, false, by omega, by go_num, rfl, fun h => (by cases h), fun _ => HNO.out, by first | rfl | trivial⟩
                  · have hda : decide (0 ≤ ws[k].1 ∧ ws[k].1 < 32) = false := decide_eq_false ha
                    have HNO := Lib.hid (mayB_w (ss := ss) hlt (fun h => ha ⟨h.1, h.2.1⟩))
                    clear ha
                    go_wp2_with fail
                    refine (number_any _ _ _).mono ?_
                    rintro e w' ⟨rfl, rfl⟩
                    go_wp2_with fail
                    go_roundw
                    case measure => simp [intOf]; omega
                    case rel => exact ⟨k + 1, false, by omega, by go_num, rfl, fun h => (by cases h), fun _ => HNO.out, by first | rfl | trivial⟩
                · have hpos' : decide ((k : Int) < ws.length) = false := decide_eq_false (by omega)
                  have HALL := Lib.hid (mayB_all HN.out HMX.out (fun j hj => YES.out (by first | rfl | trivial) j hj (by omega)) (fun j hj => Y2.out (by first | rfl | trivial) j hj (by omega)))
                  go_wp2_with fail
                  go_ret
                  exact ⟨by rw [HALL.out]; rfl, Q.out⟩
    · have hm' : decide ((ws.length : Int) ≤ 256) = false := by rw [decide_eq_false_iff_not]; omega
      have hn' : (ss.length : Int) = 32 := by omega
      have NO := Lib.hid (mayB_m (ss := ss) hm)
      clear hm hn
      go_enter Try.func39, Try.ntmps39
      go_wp2_with fail
      generalize w.alloc (.cells #[.slice A1 ss.length c1, .slice A2 ws.length c2] 29) = q at Q C k0 k1 ⊢
      clear k0 k1
      go_loopw [3, 4] (fun s3 s4 wr => s3 = .bool false ∧ s4 = .int .i64 0 ∧ wr = q) (fun _ _ _ => 0)
      case atStart => exact ⟨rfl, rfl, rfl⟩
      case round =>
        obtain ⟨rfl, rfl, rfl⟩ := hrel
        obtain ⟨k0, k1⟩ := cell2_of C.out
        by_cases hpos : (0 : Int) < ss.length
        · go_wp2_with fail
          clear k0 k1
          go_loopw [3, 5] (fun s3 s5 wx => s3 = .bool false ∧ s5 = .int .i64 0 ∧ wx = wr) (fun _ _ _ => 0)
          case atStart => exact ⟨rfl, rfl, rfl⟩
          case round =>
            obtain ⟨rfl, rfl, rfl⟩ := hrel
            obtain ⟨k0, k1⟩ := cell2_of C.out
            by_cases hpos : (0 : Int) < ws.length
            · go_wp2_with fail
              go_ret
              exact ⟨by rw [NO.out]; rfl, Q.out⟩
            · have hpos' : decide ((0 : Int) < ws.length) = false := decide_eq_false hpos
              go_wp2_with fail
              go_ret
              exact ⟨by rw [NO.out]; rfl, Q.out⟩
        · exact (hpos (by omega)).elim
  · have hn' : ((ss.length : Int) == 32) = false := by rw [beq_eq_false_iff_ne]; omega
    have NO := Lib.hid (mayB_n (ws := ws) hn)
    clear hn
    go_enter Try.func39, Try.ntmps39
    go_wp2_with fail
    generalize w.alloc (.cells #[.slice A1 ss.length c1, .slice A2 ws.length c2] 29) = q at Q C k0 k1 ⊢
    clear k0 k1
    go_loopw [3, 4] (fun s3 s4 wr => s3 = .bool false ∧ s4 = .int .i64 0 ∧ wr = q) (fun _ _ _ => 0)
    case atStart => exact ⟨rfl, rfl, rfl⟩
    case round =>
      obtain ⟨rfl, rfl, rfl⟩ := hrel
      obtain ⟨k0, k1⟩ := cell2_of C.out
      by_cases hpos : (0 : Int) < ss.length
      · go_wp2_with fail
        clear k0 k1
        go_loopw [3, 5] (fun s3 s5 wx => s3 = .bool false ∧ s5 = .int .i64 0 ∧ wx = wr) (fun _ _ _ => 0)
        case atStart => exact ⟨rfl, rfl, rfl⟩
        case round =>
          obtain ⟨rfl, rfl, rfl⟩ := hrel
          obtain ⟨k0, k1⟩ := cell2_of C.out
          by_cases hpos : (0 : Int) < ws.length
          · go_wp2_with fail
            go_ret
            exact ⟨by rw [NO.out]; rfl, Q.out⟩
          · have hpos' : decide ((0 : Int) < ws.length) = false := decide_eq_false hpos
            go_wp2_with fail
            go_ret
            exact ⟨by rw [NO.out]; rfl, Q.out⟩
      · have hpos' : decide ((0 : Int) < ss.length) = false := decide_eq_false hpos
        go_wp2_with fail
        clear k0 k1 hpos'
        go_loopw [3, 5] (fun s3 s5 wx => s3 = .bool false ∧ s5 = .int .i64 0 ∧ wx = wr) (fun _ _ _ => 0)
        case atStart => exact ⟨rfl, rfl, rfl⟩
        case round =>
          obtain ⟨rfl, rfl, rfl⟩ := hrel
          obtain ⟨k0, k1⟩ := cell2_of C.out
          by_cases hpos : (0 : Int) < ws.length
          · go_wp2_with fail
            go_ret
            exact ⟨by rw [NO.out]; rfl, Q.out⟩
          · have hpos' : decide ((0 : Int) < ws.length) = false := decide_eq_false hpos
            go_wp2_with fail
            go_ret
            exact ⟨by rw [NO.out]; rfl, Q.out⟩
end Go.Proofs.Ytdjoflhcagfmiaa

/-
  The document's own function: Seen.
  Conditions: none.
-/
set_option linter.unusedVariables false
set_option linter.unusedSimpArgs false
set_option maxRecDepth 100000
namespace Go.Proofs.Ytdjoflhcagfmiaa
open Go.RowKit

theorem rowR_nil (ss : List Bs) (ws : List Wr) (a : Nat) : rowR ss ws [] a = seeAll (ss.getD a []) a (piecesOf ws (all128 ws)) := by rw [rowR, keptK, if_pos rfl]
theorem seen_any (d : Value) (ss : List Bs) (ws : List Wr) (w : World) (h : DiskIn w w.heap.size d ss ws) (hm : May ss ws) {a : Nat} (ha : a < ss.length) :
    Calls Try.prog 68 #[d, .int .i64 (a : Int)] w fun e w' => ∃ y, e = .returned y ∧ w'.ownsRow w.heap.size 5 1 y 128 ((rowR ss ws [] a).map u8) ∧ Below w.heap.size w w' := by
  obtain ⟨v1, v2, rfl, h1, h2⟩ := id h
  have H := Lib.hid h
  have HM := Lib.hid hm
  have HA := Lib.hid ha
  have qb := below_new w (.cells #[v1, v2] 29)
  have q0 := heap_alloc_self w (.cells #[v1, v2] 29)
  clear h1 h2 h hm ha
  go_enter Try.func68, Try.ntmps68
  go_wp2_with fail
  generalize w.alloc (.cells #[v1, v2] 29) = q at q0 qb ⊢
  have QB := Lib.hid qb
  refine (row_any _ _ ss ws [] q ((H.out.below QB.out).more QB.out.size) ⟨none, 0, rfl, Nat.le_refl _, Nat.zero_le _, fun _ => rfl, fun h => absurd h (by simp)⟩ HM.out (.inl rfl) HA.out).mono ?_
  rintro e w1 ⟨y, rfl, ho, b1⟩
  have O := Lib.hid ho
  have B1 := Lib.hid (QB.out.trans (b1.mono QB.out.size))
  obtain ⟨A2, c2, rfl⟩ := own_slice_ ho
  clear ho b1 q0 qb
  go_wp2_with fail
  go_ret
  exact ⟨_, rfl, owns_mono O.out QB.out.size, B1.out⟩
end Go.Proofs.Ytdjoflhcagfmiaa
