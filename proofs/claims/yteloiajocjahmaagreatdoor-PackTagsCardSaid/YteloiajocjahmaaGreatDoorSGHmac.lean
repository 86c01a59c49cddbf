/-
 Tags of bytes by a key, as mathematics.
 Conditions: none.
-/
import Derived.Test.YteloiajocjahmaaGreatDoorSGShaB
import Derived.Laws.BitsAll
import Derived.Laws.BitsAllLaws
import Derived.Test.YteloiajocjahmaaGreatDoorSGShaR
set_option linter.unusedVariables false
set_option linter.unusedSimpArgs false
set_option maxRecDepth 100000
namespace Go.Proofs.YteloiajocjahmaaGreatDoor
open Go.RowKit

/-- A key's block. -/
def padK (key : List UInt8) : List UInt8 := key ++ List.replicate (64 - key.length) 0
/-- Each byte of it turned. -/
def turnK (K : List UInt8) (t : UInt8) : List UInt8 := K.map (· ^^^ t)
def innerL (key b : List UInt8) : List UInt8 := sumL (turnK (padK key) 54 ++ b)
def tagL (key b : List UInt8) : List UInt8 := sumL (turnK (padK key) 92 ++ innerL key b)

theorem padK_length {key : List UInt8} (h : key.length ≤ 64) : (padK key).length = 64 := by
 simp [padK]; omega
theorem turnK_length (K : List UInt8) (t : UInt8) : (turnK K t).length = K.length := by simp [turnK]
theorem sumL_length (b : List UInt8) : (sumL b).length = 32 := told32_length _
theorem innerL_length (key b : List UInt8) : (innerL key b).length = 32 := sumL_length _
theorem tagL_length (key b : List UInt8) : (tagL key b).length = 32 := sumL_length _
theorem padK_at {key : List UInt8} {i : Nat} (h : i < 64) : (padK key)[i]? = some (key.getD i 0) := by
 rw [padK, List.getD_eq_getElem?_getD]
 by_cases hi : i < key.length
 ·rw [List.getElem?_append_left hi, List.getElem?_eq_getElem hi]; rfl
 ·rw [List.getElem?_append_right (by omega), List.getElem?_replicate, if_pos (by omega), List.getElem?_eq_none (by omega)]; rfl
theorem turnK_take_succ {K : List UInt8} {t : UInt8} {i : Nat} {x : UInt8} (h : K[i]? = some x) : turnK (K.take (i + 1)) t = turnK (K.take i) t ++ [x ^^^ t] := by
 rw [List.take_add_one, h]; simp [turnK]
theorem xor_int (x t : UInt8) : bits .xor .u8 (x.toNat : Int) (t.toNat : Int) = (((x ^^^ t).toNat : Nat) : Int) := by
 rw [UInt8.toNat_xor]; exact u8_xor_nat _ _ (UInt8.toNat_lt x) (UInt8.toNat_lt t)

theorem make_room (m : Nat) (h : m ≤ 10000) (w' : World) : (Instr.makeSlice 22 (.int .i64 0) (.int .i64 (m : Int))).run Tryz.prog w' = .ok (.slice (some ⟨w'.heap.size, 0, none⟩) 0 m) (w'.alloc (.cells (rowB (List.replicate m 0)) 5)) := by
 obtain ⟨i0, hi, hz0, hz1, hz2⟩ := info_parts infoByte
 have := run_make (P := Tryz.prog) w' 22 5 i0 _ Tryz.underlying22 hi hz0 .i64 .i64 0 m (by omega) (by omega) (by rw [hz2]; omega) (by omega)
 rw [this]
 rw [hz1]
 show Result.ok _ (w'.alloc (.cells (madeCells _ ((m : Int).toNat * 1)) _)) = _
 rw [Int.toNat_natCast, made_noughts]; rfl

theorem over_made (K : List UInt8) (w : World) :
  Calls Tryz.prog 24 #[.agg (rowB K)] w fun e w' => e = .returned (.func (.func 62) #[] #[.pointer (some ⟨w.heap.size, 0, none⟩)]) ∧ w' = w.alloc (.cells (rowB K) 67) := by
 have hmf : ∀ (fn : Fn) (first cap : Array Value) (w : World), (Instr.makeFunc fn first cap).run Tryz.prog w = .ok (.func fn first cap) w := fun _ _ _ _ => rfl
 go_enter Tryz.func24, Tryz.ntmps24
 go_wp2
 go_ret
 exact ⟨rfl, rfl⟩

theorem own_snoc {w : World} {base e n : Nat} {v : Value} {X Y : List UInt8} {z : UInt8} {y : Value} (h : w.ownsRow base e 1 v (n + 1) (X.map u8 ++ [y])) (hy : y = .int .u8 (z.toNat : Int)) (hn : Y = X ++ [z]) : w.ownsRow base e 1 v (n + 1) (Y.map u8) := by
 subst hy hn
 simpa [u8] using h

set_option maxHeartbeats 1000000 in
theorem over_any (t : UInt8) (T : Int) (hTt : T = (t.toNat : Int)) (K : List UInt8) (hK : K.length = 64) (bk : Nat) (v : Value) (xs : List UInt8) (hl : xs.length ≤ 4000) (w : World) (hb : w.heap[bk]? = some (.cells (rowB K) 67 (0, 0))) (hT : Tab w) (hx : Txt w w.heap.size v xs) :
  Calls Tryz.prog 62 #[.int .u8 T, v, .pointer (some ⟨bk, 0, none⟩)] w fun e w' => e = .returned (.agg (rowB (sumL (turnK K t ++ xs)))) ∧ Below w.heap.size w w' := by
 subst hTt
 have hz32 := zero32.1
 have HT := Lib.hid hT
 have HX := Lib.hid hx
 have HK := Lib.hid hK
 obtain ⟨A, cap, rfl, -, -, -, -⟩ := hx
 obtain ⟨i0, hi, hz0, hz1, hz2⟩ := info_parts infoByte
 have I0 := Lib.hid hi
 have I1 := Lib.hid hz0
 have I2 := Lib.hid hz1
 have I3 := Lib.hid hz2
 obtain ⟨m, hm⟩ : ∃ m, m = 64 + xs.length := ⟨_, rfl⟩
 have hm' : (64 : Int) + xs.length = m := by omega
 have HM := Lib.hid hm
 have hmk : ∀ w' : World, (Instr.makeSlice 22 (.int .i64 0) (.int .i64 (m : Int))).run Tryz.prog w' = .ok (.slice (some ⟨w'.heap.size, 0, none⟩) 0 m) (w'.alloc (.cells (rowB (List.replicate m 0)) 5)) := make_room m (by omega)
 have hbb : ((w.alloc (.cells (Array.replicate 32 (.int .u8 0)) 47)).alloc (.cells (rowB (List.replicate m 0)) 5)).heap[bk]? = some (.cells (rowB K) 67 (0, 0)) := by
  have := heap_lt hb
  rw [heap_alloc_lt _ _ (by rw [heap_alloc_size]; omega), heap_alloc_lt _ _ this]; exact hb
 have HB := Lib.hid hbb
 clear hT hK hi hz0 hz1 hz2 hm hb hbb
 go_enter Tryz.func62, Tryz.ntmps62
 go_wp2_with (refine wpList_load_row rfl 67 _ rfl bk rfl HB.out Tryz.underlying67 (by rw [rowB_size, HK.out]; exact info64) ?_)
 have hu0 : ((w.alloc (.cells (Array.replicate 32 (.int .u8 0)) 47)).alloc (.cells (rowB (List.replicate m 0)) 5)).heap[w.heap.size]? = some (.cells (Array.replicate 32 (.int .u8 0)) 47 (0, 0)) := by
  rw [heap_alloc_lt _ _ (by rw [heap_alloc_size]; omega)]; exact heap_alloc_self _ _
 have hu1 : ((w.alloc (.cells (Array.replicate 32 (.int .u8 0)) 47)).alloc (.cells (rowB (List.replicate m 0)) 5)).ownsRow (w.heap.size + 1) 5 1 (.slice (some ⟨(w.alloc (.cells (Array.replicate 32 (.int .u8 0)) 47)).heap.size, 0, none⟩) 0 m) 0 [] :=
  World.ownsRow_made _ _ m (by rw [heap_alloc_size]; omega) (by unfold maxLen; have := HM.out; omega) (by rw [rowB_size, List.length_replicate]; omega)
 have hub : Below w.heap.size w ((w.alloc (.cells (Array.replicate 32 (.int .u8 0)) 47)).alloc (.cells (rowB (List.replicate m 0)) 5)) :=
  ((Below.refl _ _).alloc (Nat.le_refl _) _).alloc (by simp) _
 rw [heap_alloc_size] at hu1
 generalize (w.alloc (.cells (Array.replicate 32 (.int .u8 0)) 47)).alloc (.cells (rowB (List.replicate m 0)) 5) = u at hu0 hu1 hub ⊢
 have U0 := Lib.hid hu0
 have U1 := Lib.hid hu1
 have UB := Lib.hid hub
 clear hu0 hu1 hub HB hmk
 go_loopw [6, 14] (fun s6 s14 wr => ∃ i : Nat, i ≤ 64 ∧ s14 = .int .i64 i ∧ wr.ownsRow (w.heap.size + 1) 5 1 s6 i ((turnK (K.take i) t).map u8) ∧ wr.heap[w.heap.size]? = some (.cells (Array.replicate 32 (.int .u8 0)) 47 (0, 0)) ∧ Below w.heap.size w wr) (fun _ s14 _ => 64 - (intOf s14).toNat)
 case atStart => exact ⟨0, by omega, rfl, by simpa [turnK] using U1.out, U0.out, UB.out⟩
 case round =>
  obtain ⟨i, hi, rfl, ho, h0, hb⟩ := hrel
  clear U0 U1 UB
  obtain ⟨A3, c3, rfl⟩ := own_slice_ ho
  have HO := Lib.hid ho
  have H0 := Lib.hid h0
  have HB := Lib.hid hb
  clear ho hb h0
  by_cases hlt : i < 64
  ·have hlt' : (i : Int) < 64 := by omega
   obtain ⟨x, hx⟩ : ∃ x, K[i]? = some x := ⟨_, List.getElem?_eq_getElem (by have := HK.out; omega)⟩
   have hxc : (rowB K)[i]? = some (.int .u8 (x.toNat : Int)) := by
    simp only [rowB, List.getElem?_toArray, List.getElem?_map, hx, Option.map_some]; rfl
   have hidx : ∀ w' : World, (Instr.index 67 (.agg (rowB K)) (.int .i64 (i : Int))).run Tryz.prog w' = .ok (.int .u8 (x.toNat : Int)) w' := fun w' => by
    obtain ⟨ie, h1, h2, h3, h4⟩ := info_parts infoByte
    exact run_index_row Tryz.underlying67 Tryz.underlying5 rfl h1 h3 (by omega) hxc
   have hnext := turnK_take_succ (t := t) hx
   have hxor := xor_int x t
   have HNX := Lib.hid hnext
   have HLS : Hid (w.heap.size < wr.heap.size) := Lib.hid (heap_lt H0.out)
   clear hnext hx
   go_wp2_with (refine wpList_append_cells (o := ⟨some 22, _, _, _, _, _⟩) rfl (.tmp 17) (.tmp 21) _ rfl Tryz.underlying22 I0.out I1.out rfl I2.out I3.out (by decide) rfl (owns_below HO.out (below_new _ _)) (news := [.int .u8 (((x ^^^ t).toNat : Nat) : Int)]) rfl (fun j u hj => by rw [World.cell?_alloc_new]; simpa using hj) (by simp [Value.oneCell']) (by simp; omega) (by have := HLS.out; simp; omega) ?_; intro v4 w4 hown4 hgrow4)
   have b4 := ((HB.out.alloc HB.out.size (.cells #[.int .u8 (((x ^^^ t).toNat : Nat) : Int)] 5)).grown hgrow4 (Nat.le_trans HB.out.size (by simp)) (fun k hk => by have := own_ge HO.out k hk; omega))
   have h4 : w4.heap[w.heap.size]? = some (.cells (Array.replicate 32 (.int .u8 0)) 47 (0, 0)) :=
    (hgrow4.block w.heap.size (by have := HLS.out; simp; omega) (fun hk => by have := own_ge HO.out _ hk.symm; omega)).trans ((heap_alloc_lt _ _ HLS.out).trans H0.out)
   have O4 := Lib.hid (own_snoc hown4 rfl HNX.out)
   have B4 := Lib.hid b4
   have H4 := Lib.hid h4
   clear hown4 hgrow4 b4 h4
   go_roundw
   case measure => simp [intOf]; omega
   case rel => exact ⟨i + 1, by omega, by go_num, O4.out, H4.out, B4.out⟩
  ·obtain rfl : i = 64 := by omega
   have hlt' : ¬ (64 : Int) < 64 := by omega
   have hO := HO.out
   rw [List.take_of_length_le (by rw [HK.out]; omega)] at hO
   have HO1 := Lib.hid hO
   have HLS : Hid (w.heap.size < wr.heap.size) := Lib.hid (heap_lt H0.out)
   have HKT : Hid ((turnK K t).length = 64) := Lib.hid (by rw [turnK_length]; exact HK.out)
   clear hO HO
   go_wp2_with (refine wpList_append_txt (o := ⟨some 26, _, _, _, _, _⟩) rfl (.tmp 24) (.tmp 25) _ rfl Tryz.underlying22 I0.out I1.out I2.out I3.out rfl HO1.out rfl (HX.out.below HB.out) (by have := HX.out.le; unfold maxLen at this; omega) (by have := HLS.out; omega) ?_; intro v1 w1 hown1 hgrow1; have b1 := HB.out.grown hgrow1 HB.out.size (fun k hk => by have := own_ge HO1.out k hk; omega); have h1 : w1.heap[w.heap.size]? = some (.cells (Array.replicate 32 (.int .u8 0)) 47 (0, 0)) := (hgrow1.block w.heap.size HLS.out (fun hk => by have := own_ge HO1.out _ hk.symm; omega)).trans H0.out; have B1 := Lib.hid b1; have O1 := Lib.hid hown1; have H1 := Lib.hid h1; clear b1 hown1 hgrow1 h1)
   have hlen : (turnK K t ++ xs).length = 64 + xs.length := by rw [List.length_append, HKT.out]
   have htx : Txt w1 w1.heap.size v1 (turnK K t ++ xs) := Txt.own (by rw [hlen]; unfold maxLen; omega) (base := w.heap.size + 1) (e := 5) (by rw [hlen, List.map_append]; exact O1.out)
   refine (sum_any v1 (turnK K t ++ xs) (by rw [hlen]; omega) _ (HT.out.below B1.out HT.out.pos) htx).mono ?_
   rintro e w2 ⟨rfl, b⟩
   have B2 := Lib.hid (B1.out.trans (b.mono B1.out.size))
   have H2 := Lib.hid ((b.block _ (heap_lt H1.out)).trans H1.out)
   have HL := Lib.hid (sumL_length (turnK K t ++ xs))
   clear b hlen htx H1 H0 B1
   go_wp2_with (refine wpList_store_row rfl 47 _ _ rfl w.heap.size rfl rfl H2.out (by rw [rowB_size, HL.out]; exact zero32.2) (by rw [rowB_size, HL.out]; simp) (rowB_one _) ?_)
   refine bodyPost_ret (v := .agg (rowB (sumL (turnK K t ++ xs)))) ?_ rfl ⟨rfl, below_setRow B2.out (by omega) _⟩
   exact results_cell_row rfl _ _ w.heap.size _ _ (0, 0) _ rfl (setRow_heap _ _ _ _ _ _ H2.out) Tryz.underlying47 rfl (by rw [rowB_size, HL.out]; exact zero32.2)

/-- The results of a function whose first result is an array in memory, and whose second is a slot. -/
theorem results_row_tmp {P : Program} {fn : Func} {p u : Tmp} {ty : TypeId} (h : fn.results = #[.cell p ty, .tmp u]) (tmps : Array Value) (w : World) (g : Nat) (t : TypeId) (cs : Array Value) (fr : Nat × Nat) (d : TypeDesc)
  (hp : tmps.getD p undef = .pointer (some ⟨g, 0, none⟩)) (hg : w.heap[g]? = some (.cells cs t fr)) (hu : P.underlying ty = some d) (hd : (match d with | .struct _ | .array _ _ => true | _ => false) = true) (hi : (P.info? ty).map (·.size) = some cs.size) (x : Value) (hx : tmps.getD u undef = x) :
  (results fn tmps).run P w = .ok (.tuple #[.agg cs, x]) w := by
 have hp' : tmps[p]?.getD undef = .pointer (some ⟨g, 0, none⟩) := by simpa using hp
 rw [results_cell_tmp h, hp, hx]
 simp [asAddr, run_loadVar_row w g t ty cs fr d hg hu hd hi]
theorem zero64 : (∀ w, (zeroValue 67).run Tryz.prog w = .ok (.agg (Array.replicate 64 (.int .u8 0))) w) ∧ (Tryz.prog.info? 67).map (·.size) = some 64 := zero_of_info (by kernel_rfl)
set_option maxHeartbeats 1000000 in
theorem tag_any (v x : Value) (key b : List UInt8) (hkl : key.length ≤ 64) (hbl : b.length ≤ 4000) (w : World) (hT : Tab w) (hk : Txt w w.heap.size v key) (hx : Txt w w.heap.size x b) :
  Calls Tryz.prog 12 #[v, x] w fun e w' => e = .returned (.tuple #[.agg (rowB (tagL key b)), .int .i64 0]) ∧ Below w.heap.size w w' := by
 have hz32 := zero32.1
 have hz64 := zero64.1
 have HT := Lib.hid hT
 have HX := Lib.hid hx
 obtain ⟨A0, cap0, rfl, -, -, -, h3⟩ := hk
 have H3 := Lib.hid h3
 have g1 : ¬ (64 : Int) < key.length := by omega
 have hh : ((w.alloc (.cells (Array.replicate 32 (.int .u8 0)) 47)).alloc (.cells (Array.replicate 64 (.int .u8 0)) 67)).heap[w.heap.size + 1]? = some (.cells (rowB (List.replicate 64 0)) 67 (0, 0)) := by
  have := heap_alloc_self (w.alloc (.cells (Array.replicate 32 (.int .u8 0)) 47)) (.cells (Array.replicate 64 (.int .u8 0)) 67)
  rwa [heap_alloc_size, ← rowB_zero 64] at this
 have hh0 : ((w.alloc (.cells (Array.replicate 32 (.int .u8 0)) 47)).alloc (.cells (Array.replicate 64 (.int .u8 0)) 67)).heap[w.heap.size]? = some (.cells (Array.replicate 32 (.int .u8 0)) 47 (0, 0)) := by
  rw [heap_alloc_lt _ _ (by rw [heap_alloc_size]; omega), heap_alloc_self]
 have hbn : Below w.heap.size w ((w.alloc (.cells (Array.replicate 32 (.int .u8 0)) 47)).alloc (.cells (Array.replicate 64 (.int .u8 0)) 67)) :=
  ((Below.refl _ _).alloc (Nat.le_refl _) _).alloc (by simp) _
 have HH := Lib.hid hh
 have HH0 := Lib.hid hh0
 have HBN := Lib.hid hbn
 have KL := Lib.hid hkl
 clear hT hx h3 hh hh0 hbn
 go_enter Tryz.func12, Tryz.ntmps12
 go_wp2_with (first
  | (refine wpList_copy_splice (o := ⟨some 15, _, _, _, _, _⟩) rfl (.tmp 13) (.tmp 14) _ _ rfl 5 Tryz.underlying22 infoByteSize _ _ 64 64 key.length cap0 rfl rfl (w.heap.size + 1) 0 ((List.replicate 64 0).map u8) _ HH.out (key.map u8) (by have := KL.out; rw [List.length_map]; exact (Nat.min_eq_left (by omega)).symm) (fun hp => by
   rw [List.length_map] at hp
   obtain ⟨b, off, rfl, hlt, hc⟩ := H3.out hp
   refine ⟨rfl, _, rfl, fun j v hj => ?_⟩
   rw [List.getElem?_map] at hj
   obtain ⟨x, hx1, rfl⟩ := Option.map_eq_some_iff.1 hj
   obtain ⟨hj1, rfl⟩ := List.getElem?_eq_some_iff.1 hx1
   rw [Addr.add_lit]
   exact (HBN.out.cell (p := ⟨b, off + j, none⟩) hlt).trans (hc j hj1)) (by have := KL.out; rw [List.length_map, List.length_map, List.length_replicate]; omega) (u8s_oneCell key) (w.heap.size + 1) _ (Below.refl _ _) (Nat.le_refl _) ?_; intro w2 hg2 hb2; have hrow : w2.heap[w.heap.size + 1]? = some (.cells (rowB (padK key)) 67 (0, 0)) := (by have := hg2.out; rwa [splice_noughts key 64 KL.out] at this); have G1 := Lib.hid hrow; have G0 := Lib.hid ((hb2.block w.heap.size (by omega)).trans HH0.out); have GB := Lib.hid (HBN.out.trans (hb2.mono (by omega))); have PL := Lib.hid (padK_length KL.out); clear hg2 hb2 hrow)
  | refine wpList_load_row rfl 67 _ rfl (w.heap.size + 1) rfl G1.out Tryz.underlying67 (by rw [rowB_size, PL.out]; exact info64) ?_)
 refine (over_made _ _).mono ?_
 rintro e w3 ⟨rfl, rfl⟩
 have hq1 := heap_alloc_self w2 (.cells (rowB (padK key)) 67)
 have hq0 := (heap_alloc_lt w2 (.cells (rowB (padK key)) 67) (heap_lt G0.out)).trans G0.out
 have hqb : Below w.heap.size w (w2.alloc (.cells (rowB (padK key)) 67)) := GB.out.alloc GB.out.size _
 obtain ⟨bk, hbk⟩ : ∃ bk, bk = w2.heap.size := ⟨_, rfl⟩
 have hgt : w.heap.size < bk := by rw [hbk]; exact heap_lt G0.out
 generalize w2.alloc (.cells (rowB (padK key)) 67) = q at hq1 hq0 hqb ⊢
 rw [← hbk] at hq1 ⊢
 have Q0 := Lib.hid hq0
 have Q1 := Lib.hid hq1
 have QB := Lib.hid hqb
 have GT := Lib.hid hgt
 clear hq0 hq1 hqb hbk hgt G0 G1 GB HH HH0 HBN H3
 go_wp2_with fail
 refine (over_any 54 _ rfl (padK key) PL.out bk _ b hbl _ Q1.out (HT.out.below QB.out HT.out.pos) ((HX.out.below QB.out).more QB.out.size)).mono ?_
 rintro e w4 ⟨rfl, b4⟩
 have hI : sumL (turnK (padK key) 54 ++ b) = innerL key b := rfl
 rw [hI]
 have IL := Lib.hid (innerL_length key b)
 have hTG : sumL (turnK (padK key) 92 ++ innerL key b) = tagL key b := rfl
 have TG := Lib.hid hTG
 generalize innerL key b = I at *
 have R0 := Lib.hid ((b4.block _ (heap_lt Q0.out)).trans Q0.out)
 have R1 := Lib.hid ((b4.block _ (heap_lt Q1.out)).trans Q1.out)
 have RB := Lib.hid (QB.out.trans (b4.mono QB.out.size))
 clear b4 Q0 Q1 QB hI hTG
 clear q
 go_wp2_with (refine wpList_store_row rfl 47 _ _ rfl w4.heap.size rfl rfl (heap_alloc_self _ _) (by rw [rowB_size, IL.out]; exact zero32.2) (by rw [rowB_size, IL.out]; simp) (rowB_one _) ?_; rw [World.setRow_alloc_new])
 have hq1 := (heap_alloc_lt w4 (.cells (rowB I) 47) (heap_lt R1.out)).trans R1.out
 have hq0 := (heap_alloc_lt w4 (.cells (rowB I) 47) (heap_lt R0.out)).trans R0.out
 have hqb : Below w.heap.size w (w4.alloc (.cells (rowB I) 47)) := RB.out.alloc RB.out.size _
 have hqt : Txt (w4.alloc (.cells (rowB I) 47)) (w4.alloc (.cells (rowB I) 47)).heap.size (.slice (some ⟨w4.heap.size, 0, none⟩) 32 32) I := by
  have := txt_of_block (heap_alloc_self w4 (.cells (rowB I) 47)) (by rw [IL.out]; unfold maxLen; omega)
  rwa [IL.out] at this
 generalize w4.alloc (.cells (rowB I) 47) = q at hq1 hq0 hqb hqt ⊢
 have Q0 := Lib.hid hq0
 have Q1 := Lib.hid hq1
 have QB := Lib.hid hqb
 have QT := Lib.hid hqt
 clear hq0 hq1 hqb hqt R0 R1 RB
 refine (over_any 92 _ rfl (padK key) PL.out bk _ I (by rw [IL.out]; omega) _ Q1.out (HT.out.below QB.out HT.out.pos) QT.out).mono ?_
 rintro e w5 ⟨rfl, b5⟩
 rw [TG.out]
 have R0 := Lib.hid ((b5.block _ (heap_lt Q0.out)).trans Q0.out)
 have RB := Lib.hid (QB.out.trans (b5.mono QB.out.size))
 have TL := Lib.hid (tagL_length key b)
 clear b5 Q0 Q1 QB QT
 clear q
 go_wp2_with (refine wpList_store_row rfl 47 _ _ rfl w.heap.size rfl rfl R0.out (by rw [rowB_size, TL.out]; exact zero32.2) (by rw [rowB_size, TL.out]; simp) (rowB_one _) ?_)
 refine bodyPost_ret (v := .tuple #[.agg (rowB (tagL key b)), .int .i64 0]) ?_ rfl ⟨rfl, below_setRow RB.out (Nat.le_refl _) _⟩
 exact results_row_tmp rfl _ _ w.heap.size _ _ (0, 0) _ rfl (setRow_heap _ _ _ _ _ _ R0.out) Tryz.underlying47 rfl (by rw [rowB_size, TL.out]; exact zero32.2) _ rfl

theorem tab_pos {w : World} (h : Tab w) : 0 < w.heap.size := by
 have h0 := h 0 _ (show kk[0]? = some _ from rfl)
 rcases Nat.eq_zero_or_pos w.heap.size with h1 | h1
 ·simp [World.cell?, Array.getElem?_eq_none (Nat.le_of_eq h1)] at h0
 ·exact h1
end Go.Proofs.YteloiajocjahmaaGreatDoor
