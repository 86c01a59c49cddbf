/-
  The document's own functions: row (a sector that comes by numbers).
  Conditions: none.
-/
import Derived.Test.YtdpjdobmnkadjaaRefByte
import Derived.Test.YtdpjdobmnkadjaaDevAlive
set_option linter.unusedVariables false
set_option linter.unusedSimpArgs false
namespace Go.Proofs.Ytdpjdobmnkadjaa
open Go.RowKit

/-- A sector that comes by numbers. -/
def rowR (ss : List Bs) (ws : List Wr) (ks : List Int) (a : Nat) : Bs := seeAll (ss.getD a []) a (piecesOf ws (keptK ws ks))
theorem rowR_length {ss : List Bs} {ws : List Wr} {ks : List Int} {a : Nat} (hm : May ss ws) (ha : a < ss.length) : (rowR ss ws ks a).length = 128 := by
  have hs : (ss.getD a []).length = 128 := by
    rw [List.getD_eq_getElem?_getD, List.getElem?_eq_getElem ha]
    exact hm.s _ (List.getElem_mem ha)
  rw [rowR, seeAll_length (fun p hp => by rw [hs]; exact (pieces_le hm.w p hp).1), hs]
theorem own_snocR {w : World} {base e i : Nat} {v : Value} {R : Bs} {b : UInt8} (h : w.ownsRow base e 1 v (i + 1) ((R.take i).map u8 ++ [.int .u8 (b.toNat : Int)])) (hb : R[i]? = some b) : w.ownsRow base e 1 v (i + 1) ((R.take (i + 1)).map u8) := by
  rw [List.take_add_one, hb, List.map_append]
  exact h

set_option maxRecDepth 100000 in
set_option maxHeartbeats 1000000 in
theorem row_any (d kv : Value) (ss : List Bs) (ws : List Wr) (ks : List Int) (w : World) (h : DiskIn w w.heap.size d ss ws) (hk : NumsIn w w.heap.size kv ks) (hm : May ss ws) (hl : ks = [] ∨ ks.length = ws.length) {a : Nat} (ha : a < ss.length) :
    Calls Try.prog 58 #[d, kv, .int .i64 (a : Int)] w fun e w' => ∃ y, e = .returned y ∧ w'.ownsRow w.heap.size 5 1 y 128 ((rowR ss ws ks a).map u8) ∧ Below w.heap.size w w' := by
  obtain ⟨v1, v2, rfl, h1, h2⟩ := id h
  obtain ⟨i0, hi, hz0, hz1, hz2⟩ := info_parts infoByte
  have I0 := Lib.hid hi
  have I1 := Lib.hid hz0
  have I2 := Lib.hid hz1
  have I3 := Lib.hid hz2
  have H := Lib.hid h
  have K := Lib.hid hk
  have HM := Lib.hid hm
  have HL := Lib.hid hl
  have HA := Lib.hid ha
  have hs128 : ss[a].length = 128 := hm.s _ (List.getElem_mem ha)
  have H128 := Lib.hid hs128
  obtain ⟨R, hR⟩ : ∃ R, R = rowR ss ws ks a := ⟨_, rfl⟩
  have HR := Lib.hid (show R.length = 128 by rw [hR]; exact rowR_length hm ha)
  have HB : Hid (∀ j, ∀ hj : j < ss[a].length, R[j]? = some (byteAll ss[a][j] a j (piecesOf ws (keptK ws ks)))) := Lib.hid (fun j hj => by
    rw [hR, rowR, List.getD_eq_getElem?_getD, List.getElem?_eq_getElem ha]
    exact seeAll_at (List.getElem?_eq_getElem hj))
  rw [← hR]
  obtain ⟨A1, c1, rfl, -, -, -, -⟩ := h1
  obtain ⟨A2, c2, rfl, -, -, -, -⟩ := h2
  have hq0 := heap_alloc_self w (.cells #[.slice A1 ss.length c1, .slice A2 ws.length c2] 25)
  have hqb := below_new w (.cells #[.slice A1 ss.length c1, .slice A2 ws.length c2] 25)
  have hqs : w.heap.size ≤ (w.alloc (.cells #[.slice A1 ss.length c1, .slice A2 ws.length c2] 25)).heap.size := hqb.size
  have Q := Lib.hid hqb
  have C := Lib.hid hq0
  clear h hk hm hl ha hs128 hR hi hz0 hz1 hz2 hqb hq0 hqs
  go_enter Try.func58, Try.ntmps58
  go_wp2_with fail
  generalize w.alloc (.cells #[.slice A1 ss.length c1, .slice A2 ws.length c2] 25) = q at Q C ⊢
  go_loopw [7, 8] (fun s7 s8 wr => ∃ i : Nat, i ≤ 128 ∧ s8 = .int .i64 i ∧ wr.ownsRow q.heap.size 5 1 s7 i ((R.take i).map u8) ∧ Below q.heap.size q wr) (fun _ s8 _ => 128 - (intOf s8).toNat)
  case atStart => exact ⟨0, by omega, by go_num, World.ownsRow_nil _ _ _ _, Below.refl _ _⟩
  case round =>
    obtain ⟨i, hi, rfl, ho, hb⟩ := hrel
    obtain ⟨A3, c3, rfl⟩ := own_slice_ ho
    have HO := Lib.hid ho
    have HBL := Lib.hid hb
    have HW := Lib.hid (Q.out.trans (hb.mono Q.out.size))
    obtain ⟨k0, k1⟩ := cell2_of ((hb.block _ (heap_lt C.out)).trans C.out)
    clear ho hb
    by_cases hlt : i < 128
    · have hlt' : (i : Int) < 128 := by omega
      have hij : i < (ss[a]'(HA.out)).length := by have := H128.out; omega
      obtain ⟨b, hRi, hcall⟩ : ∃ b : UInt8, R[i]? = some b ∧ Calls Try.prog 60 #[.agg #[.slice A1 ss.length c1, .slice A2 ws.length c2], kv, .int .i64 (a : Int), .int .i64 (i : Int)] wr fun e w' => e = .returned (.int .u8 (b.toNat : Int)) ∧ Below wr.heap.size wr w' :=
        ⟨_, HB.out i hij, byteOf_any _ _ ss ws ks wr ((H.out.below HW.out).more HW.out.size) ((K.out.below HW.out).more HW.out.size) HM.out HL.out HA.out hij⟩
      have HCALL := Lib.hid hcall
      clear hcall
      go_wp2_with fail
      refine HCALL.out.mono ?_
      rintro e wA ⟨rfl, bA⟩
      have HRI := Lib.hid hRi
      have OA := Lib.hid (owns_below HO.out bA)
      have BA := Lib.hid (HBL.out.trans (bA.mono HBL.out.size))
      clear hRi bA k0 k1 hij
      go_wp2_with ((with_reducible show wpList _ _ _ (⟨some 20, _, _, _, _, _⟩ :: _) _ _); refine wpList_append_any rfl (.tmp 13) (.tmp 19) _ rfl Try.underlying30 I0.out I1.out rfl I2.out (by decide) I3.out (by decide) rfl (OA.out.alloc _) (m := 1) rfl (news := [.int .u8 (b.toNat : Int)]) rfl (fun j u hj => by rw [World.cell?_alloc_new]; simpa using hj) (by simp [Value.oneCell']) (by omega) (by have := BA.out.size; simp; omega) ?_; intro v4 w4 hown4 hgrow4)
      have O4 := Lib.hid (own_snocR hown4 HRI.out)
      have B4 := Lib.hid ((BA.out.alloc BA.out.size (.cells #[.int .u8 (b.toNat : Int)] 5)).grown hgrow4 (Nat.le_trans BA.out.size (by simp)) (own_ge OA.out))
      obtain ⟨A5, c5, h5⟩ := own_slice_ hown4
      subst h5
      clear hown4 hgrow4
      go_roundw
      case measure => simp [intOf]; omega
      case rel => exact ⟨i + 1, by omega, by go_num, O4.out, B4.out⟩
    · obtain rfl : i = 128 := by omega
      have hlt' : ¬ ((128 : Nat) : Int) < 128 := by omega
      have hfin : wr.ownsRow w.heap.size 5 1 (.slice A3 128 c3) 128 (R.map u8) := by
        have h := HO.out
        rw [List.take_of_length_le (Nat.le_of_eq HR.out)] at h
        exact owns_mono h Q.out.size
      have HF := Lib.hid hfin
      clear hfin
      go_wp2_with fail
      go_ret
      exact ⟨_, rfl, HF.out, HW.out⟩
end Go.Proofs.Ytdpjdobmnkadjaa
