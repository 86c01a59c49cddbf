/-
  The document's own answer: a key's block, the inner hash, the tag.
  Conditions: at most 4,000 bytes.
-/
import Derived.Test.YtdaaemnfphagbaaDoorHmacNested
import Derived.Test.YtdaaemnfphagbaaDoorShaRefSum
set_option linter.unusedVariables false
set_option linter.unusedSimpArgs false
namespace Go.Proofs.YtdaaemnfphagbaaDoor
open Go.RowKit

set_option maxHeartbeats 1000000 in
theorem masked_ref (t : UInt8) (T : Int) (hTt : T = (t.toNat : Int)) (v : Value) (key : List UInt8) (hk : key.length ≤ 64) (w : World) (hx : Txt w w.heap.size v key) :
    Calls Tryd.prog 22 #[v, .int .u8 T] w fun e w' => ∃ r, e = .returned r ∧ w'.ownsRow w.heap.size 5 1 r 64 ((turnK (padK key) t).map u8) ∧ Below w.heap.size w w' := by
  subst hTt
  obtain ⟨A, cap, rfl, -, -, -, h3⟩ := hx
  have H3 := Lib.hid h3
  clear h3
  obtain ⟨i0, hi, hz0, hz1, hz2⟩ := info_parts infoByte
  have I0 := Lib.hid hi
  have I1 := Lib.hid hz0
  have I2 := Lib.hid hz1
  have I3 := Lib.hid hz2
  obtain ⟨K, hK⟩ : ∃ K, K = padK key := ⟨_, rfl⟩
  have KL : Hid (K.length = 64) := Lib.hid (by rw [hK]; exact padK_length hk)
  have KA : Hid (∀ i, i < 64 → K[i]? = some (key.getD i 0)) := Lib.hid (fun i h => by rw [hK]; exact padK_at h)
  rw [← hK]
  clear hK hi hz0 hz1 hz2
  go_enter Tryd.func22, Tryd.ntmps22
  go_wp2_with fail
  go_loopw [5, 6] (fun s5 s6 wr => ∃ i : Nat, i ≤ 64 ∧ s6 = .int .i64 i ∧ wr.ownsRow w.heap.size 5 1 s5 i ((turnK (K.take i) t).map u8) ∧ Below w.heap.size w wr) (fun _ s6 _ => 64 - (intOf s6).toNat)
  case atStart => exact ⟨0, by omega, rfl, World.ownsRow_nil _ _ _ _, Below.refl _ _⟩
  case round =>
    obtain ⟨i, hi, rfl, ho, hb⟩ := hrel
    obtain ⟨A3, c3, rfl⟩ := own_slice_ ho
    have HO := Lib.hid ho
    have HB := Lib.hid hb
    clear ho hb
    by_cases hlt : i < 64
    · have hlt' : (i : Int) < 64 := by omega
      have hx := KA.out i hlt
      have HNX := Lib.hid (turnK_take_succ (t := t) hx)
      clear hx
      by_cases hik : i < key.length
      · have hik' : (i : Int) < key.length := by omega
        obtain ⟨b, off, rfl, hlt2, hcell⟩ := H3.out (by omega)
        have hki : wr.cell? ⟨b, off + i, none⟩ = some (.int .u8 ((key.getD i 0).toNat : Int)) := by
          rw [show key.getD i 0 = key[i] by rw [List.getD_eq_getElem?_getD, List.getElem?_eq_getElem hik]; rfl]
          exact (HB.out.cell (p := ⟨b, off + i, none⟩) hlt2).trans (hcell i hik)
        clear hcell
        have hxor := xor_int (key.getD i 0) t
        generalize key.getD i 0 = x at *
        generalize x ^^^ t = y at *
        go_wp2_with (refine wpList_append_cells (o := ⟨some 25, _, _, _, _, _⟩) rfl (.tmp 20) (.tmp 24) _ rfl Tryd.underlying26 I0.out I1.out rfl I2.out I3.out (by decide) rfl (owns_below HO.out (below_new _ _)) (news := [.int .u8 ((y.toNat : Nat) : Int)]) rfl (fun j u hj => by rw [World.cell?_alloc_new]; simpa using hj) (by simp [Value.oneCell']) (by simp; omega) (Nat.le_trans HB.out.size (by simp)) ?_; intro v4 w4 hown4 hgrow4)
        have b4 := ((HB.out.alloc HB.out.size (.cells #[.int .u8 ((y.toNat : Nat) : Int)] 5)).grown hgrow4 (Nat.le_trans HB.out.size (by simp)) (own_ge HO.out))
        have O4 := Lib.hid (own_snoc hown4 rfl HNX.out)
        have B4 := Lib.hid b4
        clear hown4 hgrow4 b4
        go_roundw
        case measure => simp [intOf]; omega
        case rel => exact ⟨i + 1, by omega, by go_num, O4.out, B4.out⟩
      · have hik' : ¬ (i : Int) < key.length := by omega
        have hxor : bits .xor .u8 0 (t.toNat : Int) = (((key.getD i 0 ^^^ t).toNat : Nat) : Int) := by
          rw [← xor_int, List.getD_eq_getElem?_getD, List.getElem?_eq_none (by omega)]; rfl
        generalize key.getD i 0 = x at *
        generalize x ^^^ t = y at *
        go_wp2_with (refine wpList_append_cells (o := ⟨some 25, _, _, _, _, _⟩) rfl (.tmp 20) (.tmp 24) _ rfl Tryd.underlying26 I0.out I1.out rfl I2.out I3.out (by decide) rfl (owns_below HO.out (below_new _ _)) (news := [.int .u8 ((y.toNat : Nat) : Int)]) rfl (fun j u hj => by rw [World.cell?_alloc_new]; simpa using hj) (by simp [Value.oneCell']) (by simp; omega) (Nat.le_trans HB.out.size (by simp)) ?_; intro v4 w4 hown4 hgrow4)
        have b4 := ((HB.out.alloc HB.out.size (.cells #[.int .u8 ((y.toNat : Nat) : Int)] 5)).grown hgrow4 (Nat.le_trans HB.out.size (by simp)) (own_ge HO.out))
        have O4 := Lib.hid (own_snoc hown4 rfl HNX.out)
        have B4 := Lib.hid b4
        clear hown4 hgrow4 b4
        go_roundw
        case measure => simp [intOf]; omega
        case rel => exact ⟨i + 1, by omega, by go_num, O4.out, B4.out⟩
    · obtain rfl : i = 64 := by omega
      have hlt' : ¬ (64 : Int) < 64 := by omega
      have hO := HO.out
      rw [List.take_of_length_le (by rw [KL.out]; omega)] at hO
      have HO1 := Lib.hid hO
      clear hO HO
      go_wp2_with fail
      go_ret
      exact ⟨_, rfl, HO1.out, HB.out⟩

set_option maxHeartbeats 1000000 in
theorem inner_ref (v x : Value) (key b : List UInt8) (hk : key.length ≤ 64) (hb : b.length ≤ 4000) (w : World) (h0 : Txt w w.heap.size v key) (h1 : Txt w w.heap.size x b) :
    Calls Tryd.prog 20 #[v, x] w fun e w' => e = .returned (.agg (rowB (innerL key b))) ∧ Below w.heap.size w w' := by
  have HX0 := Lib.hid h0
  have HX1 := Lib.hid h1
  have hz32 := zero32.1
  obtain ⟨A0, c0, rfl, -, -, -, -⟩ := h0
  obtain ⟨A1, c1, rfl, -, -, -, -⟩ := h1
  obtain ⟨i0, hi, hz0, hz1, hz2⟩ := info_parts infoByte
  have I0 := Lib.hid hi
  have I1 := Lib.hid hz0
  have I2 := Lib.hid hz1
  have I3 := Lib.hid hz2
  have KL : Hid ((turnK (padK key) 54).length = 64) := Lib.hid (by rw [turnK_length]; exact padK_length hk)
  have IL := Lib.hid (innerL_length key b)
  clear hi hz0 hz1 hz2
  go_enter Tryd.func20, Tryd.ntmps20
  go_wp2_with fail
  have hu0 := heap_alloc_self w (.cells (Array.replicate 32 (.int .u8 0)) 22)
  have hub := below_new w (.cells (Array.replicate 32 (.int .u8 0)) 22)
  generalize w.alloc (.cells (Array.replicate 32 (.int .u8 0)) 22) = u at hu0 hub ⊢
  have U0 := Lib.hid hu0
  have UB := Lib.hid hub
  clear hu0 hub
  refine (masked_ref 54 _ rfl _ key hk _ ((HX0.out.below UB.out).more UB.out.size)).mono ?_
  rintro e w2 ⟨r, rfl, ho2, b2⟩
  obtain ⟨A2, c2, rfl⟩ := own_slice_ ho2
  have O2 := Lib.hid ho2
  have D2 := Lib.hid b2
  clear ho2 b2
  go_wp2_with (refine wpList_append_txt (o := ⟨some 8, _, _, _, _, _⟩) rfl (.tmp 6) (.tmp 7) _ rfl Tryd.underlying26 I0.out I1.out I2.out I3.out rfl O2.out rfl (HX1.out.below (UB.out.trans (D2.out.mono UB.out.size))) (by omega) D2.out.size ?_; intro v5 w5 hown5 hgrow5; have D5 := Lib.hid (D2.out.grown hgrow5 D2.out.size (own_ge O2.out)); have O5 := Lib.hid hown5; clear hown5 hgrow5 D2 O2)
  have tx5 : Txt w5 w5.heap.size v5 (turnK (padK key) 54 ++ b) := Txt.own (by rw [List.length_append, KL.out]; unfold maxLen; omega) (base := u.heap.size) (e := 5) (by rw [List.length_append, KL.out, List.map_append]; exact O5.out)
  refine (sum_ref v5 _ (by rw [List.length_append, KL.out]; omega) _ tx5).mono ?_
  rintro e w6 ⟨rfl, b6⟩
  have hI : sumL (turnK (padK key) 54 ++ b) = innerL key b := rfl
  rw [hI]
  have D6 := Lib.hid (D5.out.trans (b6.mono D5.out.size))
  have B6 := Lib.hid (UB.out.trans (D6.out.mono UB.out.size))
  have U6 := Lib.hid ((D6.out.block _ (heap_lt U0.out)).trans U0.out)
  clear b6 hI tx5 O5 D5 D6 UB U0
  go_wp2_with (refine wpList_store_row rfl 22 _ _ rfl w.heap.size rfl rfl U6.out (by rw [rowB_size, IL.out]; exact zero32.2) (by rw [rowB_size, IL.out]; simp) (rowB_one _) ?_)
  refine bodyPost_ret (v := .agg (rowB (innerL key b))) ?_ rfl ⟨rfl, below_setRow B6.out (Nat.le_refl _) _⟩
  exact results_cell_row rfl _ _ w.heap.size _ _ (0, 0) _ rfl (setRow_heap _ _ _ _ _ _ U6.out) Tryd.underlying22 rfl (by rw [rowB_size, IL.out]; exact zero32.2)

end Go.Proofs.YtdaaemnfphagbaaDoor
