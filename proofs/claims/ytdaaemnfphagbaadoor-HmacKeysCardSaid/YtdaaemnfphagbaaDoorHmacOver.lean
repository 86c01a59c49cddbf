/-
  The closure over a key's block: the hash of the block, each byte of it turned, and bytes behind it.
  Conditions: at most 4,000 bytes; the table of constants reads as it was laid.
-/
import Derived.Test.YtdaaemnfphagbaaDoorHmacMath
import Derived.Test.YtdaaemnfphagbaaDoorShaRefWords
set_option linter.unusedVariables false
set_option linter.unusedSimpArgs false
namespace Go.Proofs.YtdaaemnfphagbaaDoor
open Go.RowKit

theorem make_room (m : Nat) (h : m ≤ 10000) (w' : World) : (Instr.makeSlice 26 (.int .i64 0) (.int .i64 (m : Int))).run Tryd.prog w' = .ok (.slice (some ⟨w'.heap.size, 0, none⟩) 0 m) (w'.alloc (.cells (rowB (List.replicate m 0)) 5)) := by
  obtain ⟨i0, hi, hz0, hz1, hz2⟩ := info_parts infoByte
  have := run_make (P := Tryd.prog) w' 26 5 i0 _ Tryd.underlying26 hi hz0 .i64 .i64 0 m (by omega) (by omega) (by rw [hz2]; omega) (by omega)
  rw [this]
  rw [hz1]
  show Result.ok _ (w'.alloc (.cells (madeCells _ ((m : Int).toNat * 1)) _)) = _
  rw [Int.toNat_natCast, made_noughts]; rfl

theorem over_made (K : List UInt8) (w : World) :
    Calls Tryd.prog 14 #[.agg (rowB K)] w fun e w' => e = .returned (.func (.func 19) #[] #[.pointer (some ⟨w.heap.size, 0, none⟩)]) ∧ w' = w.alloc (.cells (rowB K) 37) := by
  have hmf : ∀ (fn : Fn) (first cap : Array Value) (w : World), (Instr.makeFunc fn first cap).run Tryd.prog w = .ok (.func fn first cap) w := fun _ _ _ _ => rfl
  go_enter Tryd.func14, Tryd.ntmps14
  go_wp2
  go_ret
  exact ⟨rfl, rfl⟩

theorem own_snoc {w : World} {base e n : Nat} {v : Value} {X Y : List UInt8} {z : UInt8} {y : Value} (h : w.ownsRow base e 1 v (n + 1) (X.map u8 ++ [y])) (hy : y = .int .u8 (z.toNat : Int)) (hn : Y = X ++ [z]) : w.ownsRow base e 1 v (n + 1) (Y.map u8) := by
  subst hy hn
  simpa [u8] using h

set_option maxHeartbeats 1000000 in
theorem over_any (t : UInt8) (T : Int) (hTt : T = (t.toNat : Int)) (K : List UInt8) (hK : K.length = 64) (bk : Nat) (v : Value) (xs : List UInt8) (hl : xs.length ≤ 4000) (w : World) (hb : w.heap[bk]? = some (.cells (rowB K) 37 (0, 0))) (hT : Tab w) (hx : Txt w w.heap.size v xs) :
    Calls Tryd.prog 19 #[.int .u8 T, v, .pointer (some ⟨bk, 0, none⟩)] w fun e w' => e = .returned (.agg (rowB (sumL (turnK K t ++ xs)))) ∧ Below w.heap.size w w' := by
  subst hTt
  have hz32 := zero32.1
  have HT := Lib.hid hT
  have HX := Lib.hid hx
  have HK := Lib.hid hK
  obtain ⟨A, cap, rfl, -, -, -, -⟩ := hx
  obtain ⟨i0, hi, hz0, hz1, hz2⟩ := info_parts infoByte
  have I0 := Lib.hid hi
  have I1 := Lib.hid hz0
  have I2 := Lib.hid hz1
  have I3 := Lib.hid hz2
  obtain ⟨m, hm⟩ : ∃ m, m = 64 + xs.length := ⟨_, rfl⟩
  have hm' : (64 : Int) + xs.length = m := by omega
  have HM := Lib.hid hm
  have hmk : ∀ w' : World, (Instr.makeSlice 26 (.int .i64 0) (.int .i64 (m : Int))).run Tryd.prog w' = .ok (.slice (some ⟨w'.heap.size, 0, none⟩) 0 m) (w'.alloc (.cells (rowB (List.replicate m 0)) 5)) := make_room m (by omega)
  have hbb : ((w.alloc (.cells (Array.replicate 32 (.int .u8 0)) 22)).alloc (.cells (rowB (List.replicate m 0)) 5)).heap[bk]? = some (.cells (rowB K) 37 (0, 0)) := by
    have := heap_lt hb
    rw [heap_alloc_lt _ _ (by rw [heap_alloc_size]; omega), heap_alloc_lt _ _ this]; exact hb
  have HB := Lib.hid hbb
  clear hT hK hi hz0 hz1 hz2 hm hb hbb
  go_enter Tryd.func19, Tryd.ntmps19
  go_wp2_with (refine wpList_load_row rfl 37 _ rfl bk rfl HB.out Tryd.underlying37 (by rw [rowB_size, HK.out]; exact info64) ?_)
  have hu0 : ((w.alloc (.cells (Array.replicate 32 (.int .u8 0)) 22)).alloc (.cells (rowB (List.replicate m 0)) 5)).heap[w.heap.size]? = some (.cells (Array.replicate 32 (.int .u8 0)) 22 (0, 0)) := by
    rw [heap_alloc_lt _ _ (by rw [heap_alloc_size]; omega)]; exact heap_alloc_self _ _
  have hu1 : ((w.alloc (.cells (Array.replicate 32 (.int .u8 0)) 22)).alloc (.cells (rowB (List.replicate m 0)) 5)).ownsRow (w.heap.size + 1) 5 1 (.slice (some ⟨(w.alloc (.cells (Array.replicate 32 (.int .u8 0)) 22)).heap.size, 0, none⟩) 0 m) 0 [] :=
    World.ownsRow_made _ _ m (by rw [heap_alloc_size]; omega) (by unfold maxLen; have := HM.out; omega) (by rw [rowB_size, List.length_replicate]; omega)
  have hub : Below w.heap.size w ((w.alloc (.cells (Array.replicate 32 (.int .u8 0)) 22)).alloc (.cells (rowB (List.replicate m 0)) 5)) :=
    ((Below.refl _ _).alloc (Nat.le_refl _) _).alloc (by simp) _
  rw [heap_alloc_size] at hu1
  generalize (w.alloc (.cells (Array.replicate 32 (.int .u8 0)) 22)).alloc (.cells (rowB (List.replicate m 0)) 5) = u at hu0 hu1 hub ⊢
  have U0 := Lib.hid hu0
  have U1 := Lib.hid hu1
  have UB := Lib.hid hub
  clear hu0 hu1 hub HB hmk
  go_loopw [6, 14] (fun s6 s14 wr => ∃ i : Nat, i ≤ 64 ∧ s14 = .int .i64 i ∧ wr.ownsRow (w.heap.size + 1) 5 1 s6 i ((turnK (K.take i) t).map u8) ∧ wr.heap[w.heap.size]? = some (.cells (Array.replicate 32 (.int .u8 0)) 22 (0, 0)) ∧ Below w.heap.size w wr) (fun _ s14 _ => 64 - (intOf s14).toNat)
  case atStart => exact ⟨0, by omega, rfl, by simpa [turnK] using U1.out, U0.out, UB.out⟩
  case round =>
    obtain ⟨i, hi, rfl, ho, h0, hb⟩ := hrel
    clear U0 U1 UB
    obtain ⟨A3, c3, rfl⟩ := own_slice_ ho
    have HO := Lib.hid ho
    have H0 := Lib.hid h0
    have HB := Lib.hid hb
    clear ho hb h0
    by_cases hlt : i < 64
    · have hlt' : (i : Int) < 64 := by omega
      obtain ⟨x, hx⟩ : ∃ x, K[i]? = some x := ⟨_, List.getElem?_eq_getElem (by have := HK.out; omega)⟩
      have hxc : (rowB K)[i]? = some (.int .u8 (x.toNat : Int)) := by
        simp only [rowB, List.getElem?_toArray, List.getElem?_map, hx, Option.map_some]; rfl
      have hidx : ∀ w' : World, (Instr.index 37 (.agg (rowB K)) (.int .i64 (i : Int))).run Tryd.prog w' = .ok (.int .u8 (x.toNat : Int)) w' := fun w' => by
        obtain ⟨ie, h1, h2, h3, h4⟩ := info_parts infoByte
        exact run_index_row Tryd.underlying37 Tryd.underlying5 rfl h1 h3 (by omega) hxc
      have hnext := turnK_take_succ (t := t) hx
      have hxor := xor_int x t
      have HNX := Lib.hid hnext
      have HLS : Hid (w.heap.size < wr.heap.size) := Lib.hid (heap_lt H0.out)
      clear hnext hx
      go_wp2_with (refine wpList_append_cells (o := ⟨some 22, _, _, _, _, _⟩) rfl (.tmp 17) (.tmp 21) _ rfl Tryd.underlying26 I0.out I1.out rfl I2.out I3.out (by decide) rfl (owns_below HO.out (below_new _ _)) (news := [.int .u8 (((x ^^^ t).toNat : Nat) : Int)]) rfl (fun j u hj => by rw [World.cell?_alloc_new]; simpa using hj) (by simp [Value.oneCell']) (by simp; omega) (by have := HLS.out; simp; omega) ?_; intro v4 w4 hown4 hgrow4)
      have b4 := ((HB.out.alloc HB.out.size (.cells #[.int .u8 (((x ^^^ t).toNat : Nat) : Int)] 5)).grown hgrow4 (Nat.le_trans HB.out.size (by simp)) (fun k hk => by have := own_ge HO.out k hk; omega))
      have h4 : w4.heap[w.heap.size]? = some (.cells (Array.replicate 32 (.int .u8 0)) 22 (0, 0)) :=
        (hgrow4.block w.heap.size (by have := HLS.out; simp; omega) (fun hk => by have := own_ge HO.out _ hk.symm; omega)).trans ((heap_alloc_lt _ _ HLS.out).trans H0.out)
      have O4 := Lib.hid (own_snoc hown4 rfl HNX.out)
      have B4 := Lib.hid b4
      have H4 := Lib.hid h4
      clear hown4 hgrow4 b4 h4
      go_roundw
      case measure => simp [intOf]; omega
      case rel => exact ⟨i + 1, by omega, by go_num, O4.out, H4.out, B4.out⟩
    · obtain rfl : i = 64 := by omega
      have hlt' : ¬ (64 : Int) < 64 := by omega
      have hO := HO.out
      rw [List.take_of_length_le (by rw [HK.out]; omega)] at hO
      have HO1 := Lib.hid hO
      have HLS : Hid (w.heap.size < wr.heap.size) := Lib.hid (heap_lt H0.out)
      have HKT : Hid ((turnK K t).length = 64) := Lib.hid (by rw [turnK_length]; exact HK.out)
      clear hO HO
      go_wp2_with (refine wpList_append_txt (o := ⟨some 26, _, _, _, _, _⟩) rfl (.tmp 24) (.tmp 25) _ rfl Tryd.underlying26 I0.out I1.out I2.out I3.out rfl HO1.out rfl (HX.out.below HB.out) (by have := HX.out.le; unfold maxLen at this; omega) (by have := HLS.out; omega) ?_; intro v1 w1 hown1 hgrow1; have b1 := HB.out.grown hgrow1 HB.out.size (fun k hk => by have := own_ge HO1.out k hk; omega); have h1 : w1.heap[w.heap.size]? = some (.cells (Array.replicate 32 (.int .u8 0)) 22 (0, 0)) := (hgrow1.block w.heap.size HLS.out (fun hk => by have := own_ge HO1.out _ hk.symm; omega)).trans H0.out; have B1 := Lib.hid b1; have O1 := Lib.hid hown1; have H1 := Lib.hid h1; clear b1 hown1 hgrow1 h1)
      have hlen : (turnK K t ++ xs).length = 64 + xs.length := by rw [List.length_append, HKT.out]
      have htx : Txt w1 w1.heap.size v1 (turnK K t ++ xs) := Txt.own (by rw [hlen]; unfold maxLen; omega) (base := w.heap.size + 1) (e := 5) (by rw [hlen, List.map_append]; exact O1.out)
      refine (sum_any v1 (turnK K t ++ xs) (by rw [hlen]; omega) _ (HT.out.below B1.out HT.out.pos) htx).mono ?_
      rintro e w2 ⟨rfl, b⟩
      have B2 := Lib.hid (B1.out.trans (b.mono B1.out.size))
      have H2 := Lib.hid ((b.block _ (heap_lt H1.out)).trans H1.out)
      have HL := Lib.hid (sumL_length (turnK K t ++ xs))
      clear b hlen htx H1 H0 B1
      go_wp2_with (refine wpList_store_row rfl 22 _ _ rfl w.heap.size rfl rfl H2.out (by rw [rowB_size, HL.out]; exact zero32.2) (by rw [rowB_size, HL.out]; simp) (rowB_one _) ?_)
      refine bodyPost_ret (v := .agg (rowB (sumL (turnK K t ++ xs)))) ?_ rfl ⟨rfl, below_setRow B2.out (by omega) _⟩
      exact results_cell_row rfl _ _ w.heap.size _ _ (0, 0) _ rfl (setRow_heap _ _ _ _ _ _ H2.out) Tryd.underlying22 rfl (by rw [rowB_size, HL.out]; exact zero32.2)
end Go.Proofs.YtdaaemnfphagbaaDoor
