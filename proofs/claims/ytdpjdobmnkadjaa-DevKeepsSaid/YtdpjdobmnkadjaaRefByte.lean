/-
  The document's own functions: number, byteOf.
  Conditions: none.
-/
import Derived.Test.YtdpjdobmnkadjaaDevCheck
import Derived.Test.YtdpjdobmnkadjaaDevRead
import Derived.Test.YtdpjdobmnkadjaaDevCrash
set_option linter.unusedVariables false
set_option linter.unusedSimpArgs false
namespace Go.Proofs.Ytdpjdobmnkadjaa
open Go.RowKit

theorem number_any (n e : Int) (w : World) : Calls Try.prog 43 #[.int .i64 n, .int .i64 e] w fun r w' => r = .returned (.bool (decide (0 ≤ n ∧ n < e))) ∧ w = w' := by
  by_cases h0 : 0 ≤ n
  · by_cases h1 : n < e
    · rw [decide_eq_true (p := 0 ≤ n ∧ n < e) ⟨h0, h1⟩]
      go_enter Try.func43, Try.ntmps43
      go_wp2_with fail
      go_ret
      exact ⟨rfl, rfl⟩
    · rw [decide_eq_false (p := 0 ≤ n ∧ n < e) (fun h => h1 h.2)]
      go_enter Try.func43, Try.ntmps43
      go_wp2_with fail
      go_ret
      exact ⟨rfl, rfl⟩
  · rw [decide_eq_false (p := 0 ≤ n ∧ n < e) (fun h => h0 h.1)]
    go_enter Try.func43, Try.ntmps43
    go_wp2_with fail
    go_ret
    exact ⟨rfl, rfl⟩

theorem txt_byte_ {W : World} {B : Nat} {v : Value} {xs : Bs} (h : Txt W B v xs) {n : Nat} (hn : xs.length = n) {j : Nat} (hj : j < n) : ∃ b o c, v = .slice (some ⟨b, o, none⟩) n c ∧ b < B ∧ W.cell? ⟨b, o + j, none⟩ = some (.int .u8 ((xs[j]'(by omega)).toNat : Int)) := by
  subst hn
  obtain ⟨A, c, rfl, h1, h2, hn, h3⟩ := id h
  obtain ⟨b, o, rfl, hb, hc⟩ := h3 (by omega)
  exact ⟨b, o, c, rfl, hb, hc j hj⟩
/-- How far each write is kept: none told, all of them. -/
def keptK (ws : List Wr) (ks : List Int) : List Nat := if ks = [] then all128 ws else ks.map Int.toNat
theorem keptK_length {ws : List Wr} {ks : List Int} (h : ks = [] ∨ ks.length = ws.length) : (keptK ws ks).length = ws.length := by
  rw [keptK]
  split
  · rw [all128, List.length_replicate]
  · next hne =>
    rcases h with h | h
    · exact absurd h hne
    · rw [List.length_map, h]
theorem byteAll_step {ws : List Wr} {ks : List Int} {i a j : Nat} {b : UInt8} (hl : ks = [] ∨ ks.length = ws.length) (hi : i < ws.length) (hw : okW ws[i]) (hj : j < 128) :
    byteAll b a j ((piecesOf ws (keptK ws ks)).take (i + 1)) = if ws[i].1 = (a : Int) ∧ (ks = [] ∨ (j : Int) < ks.getD i 0) then ws[i].2.getD j 0 else byteAll b a j ((piecesOf ws (keptK ws ks)).take i) := by
  have hk : i < (keptK ws ks).length := by rw [keptK_length hl]; exact hi
  have e := piecesOf_at (ws := ws) (ks := keptK ws ks) hi hk
  rw [List.take_add_one, e]
  show byteAll b a j (_ ++ [_]) = _
  rw [byteAll_snoc]
  have h1 := hw.1
  have h2 := hw.2.2
  have hA : ((ws[i].1.toNat, ws[i].2.take (keptK ws ks)[i]).1 = a ∧ j < (ws[i].1.toNat, ws[i].2.take (keptK ws ks)[i]).2.length) ↔ (ws[i].1 = (a : Int) ∧ (ks = [] ∨ (j : Int) < ks.getD i 0)) := by
    show (ws[i].1.toNat = a ∧ j < (ws[i].2.take (keptK ws ks)[i]).length) ↔ _
    rw [List.length_take]
    have hK : (ks = [] → (keptK ws ks)[i] = 128) ∧ (ks ≠ [] → (keptK ws ks)[i] = (ks.getD i 0).toNat) := by
      refine ⟨fun e => ?_, fun e => ?_⟩
      · simp only [keptK, if_pos e, all128, List.getElem_replicate]
      · have hik : i < ks.length := by exact hl.elim (fun h => absurd h e) (fun h => by omega)
        simp only [keptK, if_neg e, List.getElem_map, List.getD_eq_getElem?_getD, List.getElem?_eq_getElem hik, Option.getD_some]
    by_cases e : ks = []
    · have := hK.1 e
      constructor
      · intro h; exact ⟨by omega, .inl e⟩
      · intro h; exact ⟨by omega, by omega⟩
    · have := hK.2 e
      constructor
      · intro h; exact ⟨by omega, .inr (by omega)⟩
      · intro h
        rcases h.2 with h' | h'
        · exact absurd h' e
        · exact ⟨by omega, by omega⟩
  by_cases hc : ws[i].1 = (a : Int) ∧ (ks = [] ∨ (j : Int) < ks.getD i 0)
  · rw [if_pos hc, if_pos (hA.2 hc)]
    show (ws[i].2.take (keptK ws ks)[i]).getD j 0 = _
    have hj2 := (hA.2 hc).2
    have hj3 : j < (ws[i].2.take (keptK ws ks)[i]).length := hj2
    have hj4 : j < ws[i].2.length := by omega
    rw [List.getD_eq_getElem?_getD, List.getD_eq_getElem?_getD, List.getElem?_eq_getElem hj3, List.getElem?_eq_getElem hj4, List.getElem_take]
  · rw [if_neg hc, if_neg (fun h => hc (hA.1 h))]

set_option maxRecDepth 100000 in
set_option maxHeartbeats 1000000 in
theorem byteOf_any (d kv : Value) (ss : List Bs) (ws : List Wr) (ks : List Int) (w : World) (h : DiskIn w w.heap.size d ss ws) (hk : NumsIn w w.heap.size kv ks) (hm : May ss ws) (hl : ks = [] ∨ ks.length = ws.length) {a j : Nat} (ha : a < ss.length) (hj : j < ss[a].length) :
    Calls Try.prog 60 #[d, kv, .int .i64 (a : Int), .int .i64 (j : Int)] w fun e w' => e = .returned (.int .u8 ((byteAll ss[a][j] a j (piecesOf ws (keptK ws ks))).toNat : Int)) ∧ Below w.heap.size w w' := by
  obtain ⟨v1, v2, rfl, h1, h2⟩ := h
  have H1 := Lib.hid h1
  have H2 := Lib.hid h2
  have K := Lib.hid hk
  have HM := Lib.hid hm
  have HL := Lib.hid hl
  obtain ⟨A2, c2, rfl, -, -, -, -⟩ := h2
  obtain ⟨A3, c3, rfl, -, -, -, -⟩ := hk
  have hs128 : ss[a].length = 128 := hm.s _ (List.getElem_mem ha)
  obtain ⟨A1, c1, rfl, -, -, -, -⟩ := id h1
  obtain ⟨g2, o2, u2, hA, hg2, hc2, ht2⟩ := H1.out.at ha
  subst hA
  obtain ⟨g4, o4, c4, rfl, hg4, hb4⟩ := txt_byte_ ht2 hs128 (j := j) (by omega)
  obtain ⟨b0, hb0⟩ : ∃ b0 : UInt8, b0 = ss[a][j] := ⟨_, rfl⟩
  rw [← hb0] at hb4 ⊢
  have hq0 := heap_alloc_self w (.cells #[.slice (some ⟨g2, o2, none⟩) ss.length c1, .slice A2 ws.length c2] 25)
  have hqb := below_new w (.cells #[.slice (some ⟨g2, o2, none⟩) ss.length c1, .slice A2 ws.length c2] 25)
  have hcs := (hqb.cell (p := ⟨g2, o2 + a, none⟩) hg2).trans hc2
  have hcb := (hqb.cell (p := ⟨g4, o4 + j, none⟩) hg4).trans hb4
  obtain ⟨k0, k1⟩ := cell2_of hq0
  have hai : (a : Int) < ss.length := by omega
  have hji : (j : Int) < 128 := by omega
  have hj128 : j < 128 := by omega
  obtain ⟨ps, hps⟩ : ∃ ps, ps = piecesOf ws (keptK ws ks) := ⟨_, rfl⟩
  have HPS := Lib.hid hps
  have hpl : ps.length = ws.length := by rw [hps, piecesOf_length _ _ (keptK_length hl).symm]
  have HPL := Lib.hid hpl
  rw [← hps]
  have Q := Lib.hid hqb
  have R := Lib.hid hq0
  have hwl : (ws.length : Int) ≤ 256 := by have := hm.m; omega
  clear h1 ht2 hb0 hps hpl hc2 hb4 hqb hq0 hm hl hj ha hs128
  go_enter Try.func60, Try.ntmps60
  go_wp2_with fail
  generalize w.alloc (.cells #[.slice (some ⟨g2, o2, none⟩) ss.length c1, .slice A2 ws.length c2] 25) = q at Q R k0 k1 hcs hcb ⊢
  clear k0 k1 hcs hcb
  go_loopw [9, 10] (fun s9 s10 wr => ∃ i : Nat, i ≤ ws.length ∧ s10 = .int .i64 i ∧ s9 = .int .u8 ((byteAll b0 a j (ps.take i)).toNat : Int) ∧ wr = q) (fun _ s10 _ => ws.length - (intOf s10).toNat)
  case atStart => exact ⟨0, by omega, by go_num, rfl, rfl⟩
  case round =>
    obtain ⟨i, hi, rfl, rfl, rfl⟩ := hrel
    obtain ⟨k0, k1⟩ := cell2_of R.out
    by_cases hlt : i < ws.length
    · have hlt' : (i : Int) < ws.length := by omega
      have hokw : okW ws[i] := HM.out.w _ (List.getElem_mem hlt)
      have hstep := byteAll_step (b := b0) (a := a) (j := j) HL.out hlt hokw hj128
      rw [← HPS.out] at hstep
      have hl3 := hokw.2.2
      obtain ⟨g3, o3, u3, hA, hg3, hd0, hd1, ht⟩ := H2.out.at hlt
      subst hA
      have hdi := (Q.out.cell (p := ⟨g3, o3 + i * 2, none⟩) hg3).trans hd0
      have hdj := (Q.out.cell (p := ⟨g3, o3 + i * 2 + 1, none⟩) hg3).trans hd1
      obtain ⟨g5, o5, c5, rfl, hg5, hb5⟩ := txt_byte_ ht hl3 (j := j) hj128
      have hcb := (Q.out.cell (p := ⟨g5, o5 + j, none⟩) hg5).trans hb5
      obtain ⟨z, hz⟩ : ∃ z, z = ws[i].2[j]'(by omega) := ⟨_, rfl⟩
      have hzD : ws[i].2.getD j 0 = z := by rw [hz, List.getD_eq_getElem?_getD, List.getElem?_eq_getElem (by omega)]; rfl
      rw [← hz] at hcb
      rw [hzD] at hstep
      clear hokw hl3 hd0 hd1 ht hb5 hz hzD hg3 hg5
      by_cases hat : (ws[i]).1 = (a : Int)
      · rw [hat] at hdi
        by_cases he : ks = []
        · rw [if_pos ⟨hat, .inl he⟩] at hstep
          have HS := Lib.hid hstep
          have hk0 : ks.length = 0 := by rw [he]; rfl
          clear hstep hat he
          go_wp2_with fail
          go_roundw
          case measure => simp [intOf]; omega
          case rel => exact ⟨i + 1, by omega, by go_num, by rw [HS.out], by first | rfl | trivial⟩
        · have hik : i < ks.length := HL.out.elim (fun h => absurd h he) (fun h => by omega)
          have hik' : (i : Int) < ks.length := by omega
          have hk0 : ((ks.length : Int) == 0) = false := by rw [beq_eq_false_iff_ne]; omega
          obtain ⟨g6, o6, hA, hg6, hk6⟩ := K.out.at hik
          subst hA
          have hki := (Q.out.cell (p := ⟨g6, o6 + i, none⟩) hg6).trans hk6
          obtain ⟨y, hy⟩ : ∃ y, y = ks[i] := ⟨_, rfl⟩
          have hyD : ks.getD i 0 = y := by rw [hy, List.getD_eq_getElem?_getD, List.getElem?_eq_getElem hik]; rfl
          rw [← hy] at hki
          rw [hyD] at hstep
          clear hk6 hg6 hy hyD
          by_cases hjy : (j : Int) < y
          · rw [if_pos ⟨hat, .inr hjy⟩] at hstep
            have HS := Lib.hid hstep
            clear hstep hat he hik
            go_wp2_with fail
            go_roundw
            case measure => simp [intOf]; omega
            case rel => exact ⟨i + 1, by omega, by go_num, by rw [HS.out], by first | rfl | trivial⟩
          · rw [if_neg (fun h => h.2.elim he hjy)] at hstep
            have HS := Lib.hid hstep
            have hjy' : decide ((j : Int) < y) = false := decide_eq_false hjy
            clear hstep hat he hik
            go_wp2_with fail
            go_roundw
            case measure => simp [intOf]; omega
            case rel => exact ⟨i + 1, by omega, by go_num, by rw [HS.out], by first | rfl | trivial⟩
      · rw [if_neg (fun h => hat h.1)] at hstep
        have HS := Lib.hid hstep
        have hat' : ((ws[i]).1 == (a : Int)) = false := by rw [beq_eq_false_iff_ne]; exact hat
        obtain ⟨y, hy⟩ : ∃ y, y = (ws[i]).1 := ⟨_, rfl⟩
        rw [← hy] at hdi hat'
        clear hstep hat hy
        go_wp2_with fail
        go_roundw
        case measure => simp [intOf]; omega
        case rel => exact ⟨i + 1, by omega, by go_num, by rw [HS.out], by first | rfl | trivial⟩
    · obtain rfl : i = ws.length := by omega
      have hlt2 : decide ((ws.length : Int) < ws.length) = false := by simp
      have e : ps.take ws.length = ps := by rw [List.take_of_length_le (Nat.le_of_eq HPL.out)]
      rw [e]
      clear e
      go_wp2_with fail
      go_ret
      exact ⟨rfl, Q.out⟩
end Go.Proofs.Ytdpjdobmnkadjaa
