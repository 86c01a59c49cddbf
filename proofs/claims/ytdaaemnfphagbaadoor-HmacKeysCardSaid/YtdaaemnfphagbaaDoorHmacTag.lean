/-
  The tag of bytes by a key; whether two tags are the same.
  Conditions: at most 3,000 bytes; the table of constants reads as it was laid.
-/
import Derived.Test.YtdaaemnfphagbaaDoorHmacOver
set_option linter.unusedVariables false
set_option linter.unusedSimpArgs false
namespace Go.Proofs.YtdaaemnfphagbaaDoor
open Go.RowKit

/-- The results of a function whose first result is an array in memory, and whose second is a slot. -/
theorem results_row_tmp {P : Program} {fn : Func} {p u : Tmp} {ty : TypeId} (h : fn.results = #[.cell p ty, .tmp u]) (tmps : Array Value) (w : World) (g : Nat) (t : TypeId) (cs : Array Value) (fr : Nat × Nat) (d : TypeDesc)
    (hp : tmps.getD p undef = .pointer (some ⟨g, 0, none⟩)) (hg : w.heap[g]? = some (.cells cs t fr)) (hu : P.underlying ty = some d) (hd : (match d with | .struct _ | .array _ _ => true | _ => false) = true) (hi : (P.info? ty).map (·.size) = some cs.size) (x : Value) (hx : tmps.getD u undef = x) :
    (results fn tmps).run P w = .ok (.tuple #[.agg cs, x]) w := by
  have hp' : tmps[p]?.getD undef = .pointer (some ⟨g, 0, none⟩) := by simpa using hp
  rw [results_cell_tmp h, hp, hx]
  simp [asAddr, run_loadVar_row w g t ty cs fr d hg hu hd hi]
theorem zero64 : (∀ w, (zeroValue 37).run Tryd.prog w = .ok (.agg (Array.replicate 64 (.int .u8 0))) w) ∧ (Tryd.prog.info? 37).map (·.size) = some 64 := zero_of_info (by kernel_rfl)
theorem zeros_one (n : Nat) : (Array.replicate n (Value.int .u8 0)).all (·.oneCell') = true := by
  rw [← rowB_zero]; exact rowB_one _

theorem tag_long (v x : Value) (key : List UInt8) (h : 64 < key.length) (w : World) (hk : Txt w w.heap.size v key) :
    Calls Tryd.prog 8 #[v, x] w fun e w' => e = .returned (.tuple #[.agg (rowB (List.replicate 32 0)), .int .i64 3]) ∧ Below w.heap.size w w' := by
  have hz32 := zero32.1
  obtain ⟨A0, cap0, rfl, -, -, -, -⟩ := hk
  have g1 : (64 : Int) < key.length := by omega
  have hh := heap_alloc_self w (.cells (Array.replicate 32 (.int .u8 0)) 22)
  have HH := Lib.hid hh
  clear hh
  rw [rowB_zero]
  go_enter Tryd.func8, Tryd.ntmps8
  go_wp2_with (refine wpList_store_row rfl 22 _ _ rfl w.heap.size rfl rfl HH.out zero32.2 (by simp) (zeros_one 32) ?_)
  refine bodyPost_ret (v := .tuple #[.agg (Array.replicate 32 (.int .u8 0)), .int .i64 3]) ?_ rfl ⟨rfl, below_setRow ((Below.refl _ _).alloc (Nat.le_refl _) _) (Nat.le_refl _) _⟩
  exact results_row_tmp rfl _ _ w.heap.size _ _ (0, 0) _ rfl (setRow_heap _ _ _ _ _ _ HH.out) Tryd.underlying22 rfl (by simpa using zero32.2) _ rfl

set_option maxHeartbeats 1000000 in
theorem tag_any (v x : Value) (key b : List UInt8) (hkl : key.length ≤ 64) (hbl : b.length ≤ 4000) (w : World) (hT : Tab w) (hk : Txt w w.heap.size v key) (hx : Txt w w.heap.size x b) :
    Calls Tryd.prog 8 #[v, x] w fun e w' => e = .returned (.tuple #[.agg (rowB (tagL key b)), .int .i64 0]) ∧ Below w.heap.size w w' := by
  have hz32 := zero32.1
  have hz64 := zero64.1
  have HT := Lib.hid hT
  have HX := Lib.hid hx
  obtain ⟨A0, cap0, rfl, -, -, -, h3⟩ := hk
  have H3 := Lib.hid h3
  have g1 : ¬ (64 : Int) < key.length := by omega
  have hh : ((w.alloc (.cells (Array.replicate 32 (.int .u8 0)) 22)).alloc (.cells (Array.replicate 64 (.int .u8 0)) 37)).heap[w.heap.size + 1]? = some (.cells (rowB (List.replicate 64 0)) 37 (0, 0)) := by
    have := heap_alloc_self (w.alloc (.cells (Array.replicate 32 (.int .u8 0)) 22)) (.cells (Array.replicate 64 (.int .u8 0)) 37)
    rwa [heap_alloc_size, ← rowB_zero 64] at this
  have hh0 : ((w.alloc (.cells (Array.replicate 32 (.int .u8 0)) 22)).alloc (.cells (Array.replicate 64 (.int .u8 0)) 37)).heap[w.heap.size]? = some (.cells (Array.replicate 32 (.int .u8 0)) 22 (0, 0)) := by
    rw [heap_alloc_lt _ _ (by rw [heap_alloc_size]; omega), heap_alloc_self]
  have hbn : Below w.heap.size w ((w.alloc (.cells (Array.replicate 32 (.int .u8 0)) 22)).alloc (.cells (Array.replicate 64 (.int .u8 0)) 37)) :=
    ((Below.refl _ _).alloc (Nat.le_refl _) _).alloc (by simp) _
  have HH := Lib.hid hh
  have HH0 := Lib.hid hh0
  have HBN := Lib.hid hbn
  have KL := Lib.hid hkl
  clear hT hx h3 hh hh0 hbn
  go_enter Tryd.func8, Tryd.ntmps8
  go_wp2_with (first
    | (refine wpList_copy_splice (o := ⟨some 15, _, _, _, _, _⟩) rfl (.tmp 13) (.tmp 14) _ _ rfl 5 Tryd.underlying26 infoByteSize _ _ 64 64 key.length cap0 rfl rfl (w.heap.size + 1) 0 ((List.replicate 64 0).map u8) _ HH.out (key.map u8) (by have := KL.out; rw [List.length_map]; exact (Nat.min_eq_left (by omega)).symm) (fun hp => by
      rw [List.length_map] at hp
      obtain ⟨b, off, rfl, hlt, hc⟩ := H3.out hp
      refine ⟨rfl, _, rfl, fun j v hj => ?_⟩
      rw [List.getElem?_map] at hj
      obtain ⟨x, hx1, rfl⟩ := Option.map_eq_some_iff.1 hj
      obtain ⟨hj1, rfl⟩ := List.getElem?_eq_some_iff.1 hx1
      rw [Addr.add_lit]
      exact (HBN.out.cell (p := ⟨b, off + j, none⟩) hlt).trans (hc j hj1)) (by have := KL.out; rw [List.length_map, List.length_map, List.length_replicate]; omega) (u8s_oneCell key) (w.heap.size + 1) _ (Below.refl _ _) (Nat.le_refl _) ?_; intro w2 hg2 hb2; have hrow : w2.heap[w.heap.size + 1]? = some (.cells (rowB (padK key)) 37 (0, 0)) := (by have := hg2.out; rwa [splice_noughts key 64 KL.out] at this); have G1 := Lib.hid hrow; have G0 := Lib.hid ((hb2.block w.heap.size (by omega)).trans HH0.out); have GB := Lib.hid (HBN.out.trans (hb2.mono (by omega))); have PL := Lib.hid (padK_length KL.out); clear hg2 hb2 hrow)
    | refine wpList_load_row rfl 37 _ rfl (w.heap.size + 1) rfl G1.out Tryd.underlying37 (by rw [rowB_size, PL.out]; exact info64) ?_)
  refine (over_made _ _).mono ?_
  rintro e w3 ⟨rfl, rfl⟩
  have hq1 := heap_alloc_self w2 (.cells (rowB (padK key)) 37)
  have hq0 := (heap_alloc_lt w2 (.cells (rowB (padK key)) 37) (heap_lt G0.out)).trans G0.out
  have hqb : Below w.heap.size w (w2.alloc (.cells (rowB (padK key)) 37)) := GB.out.alloc GB.out.size _
  obtain ⟨bk, hbk⟩ : ∃ bk, bk = w2.heap.size := ⟨_, rfl⟩
  have hgt : w.heap.size < bk := by rw [hbk]; exact heap_lt G0.out
  generalize w2.alloc (.cells (rowB (padK key)) 37) = q at hq1 hq0 hqb ⊢
  rw [← hbk] at hq1 ⊢
  have Q0 := Lib.hid hq0
  have Q1 := Lib.hid hq1
  have QB := Lib.hid hqb
  have GT := Lib.hid hgt
  clear hq0 hq1 hqb hbk hgt G0 G1 GB HH HH0 HBN H3
  go_wp2_with fail
  refine (over_any 54 _ rfl (padK key) PL.out bk _ b hbl _ Q1.out (HT.out.below QB.out HT.out.pos) ((HX.out.below QB.out).more QB.out.size)).mono ?_
  rintro e w4 ⟨rfl, b4⟩
  have hI : sumL (turnK (padK key) 54 ++ b) = innerL key b := rfl
  rw [hI]
  have IL := Lib.hid (innerL_length key b)
  have hTG : sumL (turnK (padK key) 92 ++ innerL key b) = tagL key b := rfl
  have TG := Lib.hid hTG
  generalize innerL key b = I at *
  have R0 := Lib.hid ((b4.block _ (heap_lt Q0.out)).trans Q0.out)
  have R1 := Lib.hid ((b4.block _ (heap_lt Q1.out)).trans Q1.out)
  have RB := Lib.hid (QB.out.trans (b4.mono QB.out.size))
  clear b4 Q0 Q1 QB hI hTG
  clear q
  go_wp2_with (refine wpList_store_row rfl 22 _ _ rfl w4.heap.size rfl rfl (heap_alloc_self _ _) (by rw [rowB_size, IL.out]; exact zero32.2) (by rw [rowB_size, IL.out]; simp) (rowB_one _) ?_; rw [World.setRow_alloc_new])
  have hq1 := (heap_alloc_lt w4 (.cells (rowB I) 22) (heap_lt R1.out)).trans R1.out
  have hq0 := (heap_alloc_lt w4 (.cells (rowB I) 22) (heap_lt R0.out)).trans R0.out
  have hqb : Below w.heap.size w (w4.alloc (.cells (rowB I) 22)) := RB.out.alloc RB.out.size _
  have hqt : Txt (w4.alloc (.cells (rowB I) 22)) (w4.alloc (.cells (rowB I) 22)).heap.size (.slice (some ⟨w4.heap.size, 0, none⟩) 32 32) I := by
    have := txt_of_block (heap_alloc_self w4 (.cells (rowB I) 22)) (by rw [IL.out]; unfold maxLen; omega)
    rwa [IL.out] at this
  generalize w4.alloc (.cells (rowB I) 22) = q at hq1 hq0 hqb hqt ⊢
  have Q0 := Lib.hid hq0
  have Q1 := Lib.hid hq1
  have QB := Lib.hid hqb
  have QT := Lib.hid hqt
  clear hq0 hq1 hqb hqt R0 R1 RB
  refine (over_any 92 _ rfl (padK key) PL.out bk _ I (by rw [IL.out]; omega) _ Q1.out (HT.out.below QB.out HT.out.pos) QT.out).mono ?_
  rintro e w5 ⟨rfl, b5⟩
  rw [TG.out]
  have R0 := Lib.hid ((b5.block _ (heap_lt Q0.out)).trans Q0.out)
  have RB := Lib.hid (QB.out.trans (b5.mono QB.out.size))
  have TL := Lib.hid (tagL_length key b)
  clear b5 Q0 Q1 QB QT
  clear q
  go_wp2_with (refine wpList_store_row rfl 22 _ _ rfl w.heap.size rfl rfl R0.out (by rw [rowB_size, TL.out]; exact zero32.2) (by rw [rowB_size, TL.out]; simp) (rowB_one _) ?_)
  refine bodyPost_ret (v := .tuple #[.agg (rowB (tagL key b)), .int .i64 0]) ?_ rfl ⟨rfl, below_setRow RB.out (Nat.le_refl _) _⟩
  exact results_row_tmp rfl _ _ w.heap.size _ _ (0, 0) _ rfl (setRow_heap _ _ _ _ _ _ R0.out) Tryd.underlying22 rfl (by rw [rowB_size, TL.out]; exact zero32.2) _ rfl
end Go.Proofs.YtdaaemnfphagbaaDoor
