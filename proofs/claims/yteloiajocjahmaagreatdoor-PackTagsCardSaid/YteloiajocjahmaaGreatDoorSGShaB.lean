/-
 Bytes, filled.
 Conditions: at most 5,000 bytes.
-/
import Derived.Test.YteloiajocjahmaaGreatDoorSGShaA
import Derived.Laws.MakeOwn
import Derived.ChangeKeysEq
import Derived.Lib.SlBytesConst
import Derived.BigRegion
import Derived.Deep.RegionHeld3
set_option linter.unusedVariables false
set_option linter.unusedSimpArgs false
set_option maxRecDepth 100000
namespace Go.Proofs.YteloiajocjahmaaGreatDoor
open Go.RowKit

theorem made_noughts (m : Nat) : madeCells (Value.int IntKind.u8 0).cells (m * 1) = rowB (List.replicate m 0) := by
 rw [Nat.mul_one]
 apply Array.ext
 ·rw [size_madeCells, rowB_size, List.length_replicate]
 ·intro i h1 h2
  simp [madeCells, rowB, Value.cells, u8, Nat.mod_one]
theorem rowB_set (l : List UInt8) (j : Nat) (x : UInt8) : (rowB l).setIfInBounds j (.int .u8 (x.toNat : Int)) = rowB (l.set j x) := by
 simp only [rowB, List.setIfInBounds_toArray, List.map_set]; rfl
theorem infoByteSize : (Tryz.prog.info? 5).map (·.size) = some 1 := by kernel_rfl
theorem txt_of_block {w : World} {b : Nat} {l : List UInt8} {t : TypeId} {fr : Nat × Nat} (h : w.heap[b]? = some (.cells (rowB l) t fr)) (hl : l.length ≤ maxLen) : Txt w w.heap.size (.slice (some ⟨b, 0, none⟩) l.length l.length) l :=
 ⟨_, _, rfl, Nat.le_refl _, hl, fun e => (by cases e), fun _ => ⟨b, 0, rfl, heap_lt h, fun j hj => by
  rw [Nat.zero_add, cell_of_row _ _ _ _ _ _ h]; exact rowB_at hj⟩⟩

theorem splice_noughts (xs : List UInt8) (m : Nat) (h : xs.length ≤ m) : (splice ((List.replicate m (0 : UInt8)).map u8) 0 (xs.map u8)).toArray = rowB (xs ++ List.replicate (m - xs.length) 0) := by
 simp [splice, rowB]

set_option maxHeartbeats 1000000 in
theorem filled_any (v : Value) (xs : List UInt8) (hl : xs.length ≤ 5000) (w : World) (hx : Txt w w.heap.size v xs) :
  Calls Tryz.prog 99 #[v] w fun e w' => e = .returned (.slice (some ⟨w.heap.size, 0, none⟩) (fill xs).length (fill xs).length) ∧ w'.heap[w.heap.size]? = some (.cells (rowB (fill xs)) 5 (0, 0)) ∧ Below w.heap.size w w' := by
 obtain ⟨A, cap, rfl, h1, h2, hn, h3⟩ := hx
 unfold maxLen at h2
 have H3 := Lib.hid h3
 have HN := Lib.hid hn
 clear h3 hn
 obtain ⟨i0, hi, hz0, hz1, hz2⟩ := info_parts infoByte
 obtain ⟨m, hm⟩ : ∃ m, m = 64 * ((xs.length + 8) / 64 + 1) := ⟨_, rfl⟩
 have hm' : (((xs.length : Int) + 8) / 64 + 1) * 64 = m := by omega
 have hmk : ∀ w' : World, (Instr.makeSlice 22 (.int .i64 (m : Int)) (.int .i64 (m : Int))).run Tryz.prog w' = .ok (.slice (some ⟨w'.heap.size, 0, none⟩) m m) (w'.alloc (.cells (rowB (List.replicate m 0)) 5)) := fun w' => by
  have := run_make (P := Tryz.prog) w' 22 5 i0 _ Tryz.underlying22 hi hz0 .i64 .i64 m m (by omega) (by omega) (by rw [hz2]; omega) (by omega)
  rw [this]
  rw [hz1]
  show Result.ok _ (w'.alloc (.cells (madeCells _ ((m : Int).toNat * 1)) _)) = _
  rw [Int.toNat_natCast, made_noughts]
 have hcp : ∀ w2 : World, Hid (w2.heap[w.heap.size]? = some (.cells (splice ((List.replicate m (0 : UInt8)).map u8) 0 (xs.map u8)).toArray 5 (0, 0))) →
   w2.heap[w.heap.size]? = some (.cells (rowB (xs ++ List.replicate (m - xs.length) 0)) 5 (0, 0)) ∧ (∃ v, w2.cell? ⟨w.heap.size, xs.length, none⟩ = some v) ∧ w2.frozen? ⟨w.heap.size, xs.length, none⟩ = false := by
  intro w2 hg2
  have hrow : w2.heap[w.heap.size]? = some (.cells (rowB (xs ++ List.replicate (m - xs.length) 0)) 5 (0, 0)) := by
   rw [← splice_noughts xs m (by omega)]; exact hg2.out
  exact ⟨hrow, ⟨_, (cell_of_row w2 w.heap.size xs.length _ _ _ hrow).trans (rowB_at (by rw [List.length_append, List.length_replicate]; omega))⟩, frozen_of_row w2 w.heap.size xs.length _ _ hrow⟩
 have HCP := Lib.hid hcp
 clear hcp
 have HM := Lib.hid hm
 clear hm hi hz0 hz1 hz2
 go_enter Tryz.func99, Tryz.ntmps99
 go_wp2_with (refine wpList_copy_splice (o := ⟨some 17, _, _, _, _, _⟩) rfl (.tmp 15) (.tmp 16) _ _ rfl 5 Tryz.underlying22 infoByteSize _ _ m m xs.length cap rfl rfl w.heap.size 0 ((List.replicate m 0).map u8) _ (heap_alloc_self _ _) (xs.map u8) (by have := HM.out; rw [List.length_map]; exact (Nat.min_eq_left (by omega)).symm) (fun hp => by
   rw [List.length_map] at hp
   obtain ⟨b, off, rfl, hlt, hc⟩ := H3.out hp
   refine ⟨rfl, _, rfl, fun j v hj => ?_⟩
   rw [List.getElem?_map] at hj
   obtain ⟨x, hx1, rfl⟩ := Option.map_eq_some_iff.1 hj
   obtain ⟨hj1, rfl⟩ := List.getElem?_eq_some_iff.1 hx1
   rw [Addr.add_lit, World.cell?_alloc_lt _ _ _ (show b < w.heap.size from hlt)]
   exact hc j hj1) (by have := HM.out; rw [List.length_map, List.length_map, List.length_replicate]; omega) (u8s_oneCell xs) w.heap.size w (below_new w _) (Nat.le_refl _) ?_; intro w2 hg2 hb2; obtain ⟨hrow, ⟨vc, hc⟩, hf⟩ := HCP.out w2 hg2; have HR2 := Lib.hid hrow; have HB2 := Lib.hid hb2; clear hrow hb2 hg2)
 clear hmk HCP
 have hset := partF_zero xs
 rw [← HM.out] at hset
 have hv : (w2.setCell ⟨w.heap.size, xs.length, none⟩ (.int .u8 128)).heap[w.heap.size]? = some (.cells (rowB (partF xs 0)) 5 (0, 0)) := by
  rw [heap_setCell_same _ _ _ _ _ _ HR2.out, ← hset, ← rowB_set]; rfl
 have hb3 : Below w.heap.size w (w2.setCell ⟨w.heap.size, xs.length, none⟩ (.int .u8 128)) := HB2.out.setCell (Nat.le_refl _) _
 generalize w2.setCell ⟨w.heap.size, xs.length, none⟩ (.int .u8 128) = w3 at hv hb3 ⊢
 have HV := Lib.hid hv
 have HB := Lib.hid hb3
 clear hv hb3 hset hc hf HR2 HB2
 have hm1 : 64 ≤ m := by have := HM.out; omega
 have hm2 : m ≤ 6000 := by have := HM.out; omega
 go_loopw [5, 26] (fun s5 s26 wr => ∃ i : Nat, i ≤ 8 ∧ s5 = .int .u64 ((8 * xs.length / 2 ^ (8 * i) : Nat) : Int) ∧ s26 = .int .i64 i ∧ wr.heap[w.heap.size]? = some (.cells (rowB (partF xs i)) 5 (0, 0)) ∧ Below w.heap.size w wr) (fun _ s26 _ => 8 - (intOf s26).toNat)
 case atStart => exact ⟨0, by omega, by congr 1; omega, rfl, HV.out, HB.out⟩
 case round =>
  obtain ⟨i, hi, rfl, rfl, q0, q1⟩ := hrel
  clear HV HB
  have Q0 := Lib.hid q0
  have Q1 := Lib.hid q1
  clear q1
  by_cases hlt : i < 8
  ·have hlt' : (i : Int) < 8 := by omega
   have hlen := partF_length xs (i := i) (by omega)
   rw [← HM.out] at hlen
   have hset := partF_set xs hlt
   rw [← HM.out] at hset
   have hnext : 8 * xs.length / 2 ^ (8 * (i + 1)) = 8 * xs.length / 2 ^ (8 * i) / 256 := by
    rw [Nat.div_div_eq_div_mul, show (256 : Nat) = 2 ^ 8 from rfl, ← Nat.pow_add]
    congr 2
   have hLl : 8 * xs.length / 2 ^ (8 * i) ≤ 40000 := Nat.le_trans (Nat.div_le_self _ _) (by omega)
   obtain ⟨k, hk⟩ : ∃ k, k = m - 1 - i := ⟨_, rfl⟩
   rw [← hk] at hset
   have hkI : (m : Int) - 1 - i = k := by omega
   obtain ⟨y, hc⟩ : ∃ y, wr.cell? ⟨w.heap.size, k, none⟩ = some y := ⟨_, (cell_of_row wr w.heap.size k _ _ _ q0).trans (rowB_at (l := partF xs i) (j := k) (by omega))⟩
   have hf := frozen_of_row wr w.heap.size k _ _ q0
   have hk1 : (k : Int) < m := by omega
   have hrow : (rowB (partF xs i)).setIfInBounds k (.int .u8 (((8 * xs.length / 2 ^ (8 * i) : Nat) : Int) % 256)) = rowB (partF xs (i + 1)) := by
    rw [← hset, ← rowB_set, UInt8.toNat_ofNat']
    congr 2
   have HSET := Lib.hid hrow
   have HNEXT := Lib.hid hnext
   clear hset hnext hrow q0 hk hlen
   generalize 8 * xs.length / 2 ^ (8 * i) = L at *
   go_wp2
   go_roundw
   case measure => simp [intOf]; omega
   case rel =>
    refine ⟨i + 1, by omega, ?_, by go_num, ?_, Q1.out.setCell (Nat.le_refl _) _⟩
    ·rw [HNEXT.out]; congr 1
    ·rw [heap_setCell_same _ _ _ _ _ _ Q0.out, HSET.out]
  ·obtain rfl : i = 8 := by omega
   have hlt' : ¬ (8 : Int) < 8 := by omega
   rw [partF_all] at Q0
   have hfl := fill_length xs
   rw [← HM.out] at hfl
   have HFL := Lib.hid hfl
   clear q0 hfl
   go_wp2
   go_ret
   exact ⟨by rw [HFL.out]; rfl, Q0.out, Q1.out⟩

theorem zero32 : (∀ w, (zeroValue 47).run Tryz.prog w = .ok (.agg (Array.replicate 32 (.int .u8 0))) w) ∧ (Tryz.prog.info? 47).map (·.size) = some 32 := zero_of_info (by kernel_rfl)
theorem rowB_zero (n : Nat) : rowB (List.replicate n 0) = Array.replicate n (.int .u8 0) := by
 apply Array.ext'
 simp [rowB, u8]

/-- A whole array, from the middle of a block, loaded in the head of a region that draws its order. -/
theorem wpStill_load_mid {P : Program} {ops : Array Oper} {w : World} {Q : Act → Prop} {a : Act} {o : Oper} {rest : List Oper} (hgd : o.guard = none) (ty : TypeId) (x : Operand) (ho : o.op = .load ty x) (b k : Nat) (hx : a.eval x = .pointer (some ⟨b, k, none⟩))
  {c : Array Value} (hrun : (Instr.loadAt ty (.pointer (some ⟨b, k, none⟩))).run P w = .ok (.agg c) w) (h : wpStill P ops w Q rest (a.put o.dst (.agg c))) : wpStill P ops w Q (o :: rest) a := by
 refine wpStill_step (fun K hK => ?_)
 rw [if_pos (by simp [Region.wanted, hgd])]
 unfold Oper.still execOp
 simp only [ho, hx, hrun, Sem.run_bind, Result.andThen_ok, Sem.run_pure, Functor.map]
 first
  | exact ⟨rfl, hK _ h⟩
  | (rw [Sem.run_bind, hrun]; exact ⟨rfl, hK _ h⟩)

theorem run_load_block {w : World} {b k : Nat} {l : List UInt8} {t : TypeId} (hb : w.heap[b]? = some (.cells (rowB l) t (0, 0))) (hk : k + 64 ≤ l.length) :
  (Instr.loadAt 67 (.pointer (some ⟨b, k, none⟩))).run Tryz.prog w = .ok (.agg (rowB ((l.drop k).take 64))) w := by
 have hr : w.rangeAt b k (((l.drop k).take 64).map u8) := fun j v hv => by
  rw [List.getElem?_map, Option.map_eq_some_iff] at hv
  obtain ⟨x, hx, rfl⟩ := hv
  rw [List.getElem?_take, List.getElem?_drop] at hx
  split at hx
  ·obtain ⟨h1, rfl⟩ := List.getElem?_eq_some_iff.1 hx
   rw [cell_of_row _ _ _ _ _ _ hb]; exact rowB_at h1
  ·cases hx
 exact run_loadAt_mid w b k 67 _ _ hr Tryz.underlying67 rfl (by rw [List.length_map, List.length_take, List.length_drop, Nat.min_eq_left (by omega)]; exact info64)

theorem run_arrayAt (a : Option Addr) (cap : Nat) (w : World) : (Instr.arrayAt 67 (.slice a 64 cap)).run Tryz.prog w = .ok (.pointer a) w := by
 simp [Instr.arrayAt, Sem.run_bind, run_underlying Tryz.underlying67 w]

def lenOf : Value → Nat
 | .slice _ n _ => n
 | _ => 0
/-- What holds behind n blocks. -/
def SumAt (w : World) (bf : Nat) (X : List UInt8) (n : Nat) (v : World) : Prop :=
 v.heap[w.heap.size]? = some (.cells (Array.replicate 32 (.int .u8 0)) 47 (0, 0)) ∧ v.heap[w.heap.size + 1]? = some (.cells (row32 (hashTo X begin8 n)) 124 (0, 0)) ∧
 v.heap[bf]? = some (.cells (rowB X) 5 (0, 0)) ∧ Below w.heap.size w v
theorem SumAt.drew {w v : World} {bf n : Nat} {X : List UInt8} (a : SumAt w bf X n v) : SumAt w bf X n v.drew := ⟨a.1, a.2.1, a.2.2.1, a.2.2.2.drew⟩
theorem SumAt.below {w v v' : World} {bf n : Nat} {X : List UInt8} (a : SumAt w bf X n v) (b : Below v.heap.size v v') : SumAt w bf X n v' :=
 ⟨(b.block _ (heap_lt a.1)).trans a.1, (b.block _ (heap_lt a.2.1)).trans a.2.1, (b.block _ (heap_lt a.2.2.1)).trans a.2.2.1, a.2.2.2.trans (b.mono a.2.2.2.size)⟩

set_option maxHeartbeats 2000000 in
theorem sum_any (v : Value) (xs : List UInt8) (hl : xs.length ≤ 5000) (w : World) (hT : Tab w) (hx : Txt w w.heap.size v xs) :
  Calls Tryz.prog 63 #[v] w fun e w' => e = .returned (.agg (rowB (sumL xs))) ∧ Below w.heap.size w w' := by
 have hz8 := zero8.1
 have hz32 := zero32.1
 have HT := Lib.hid hT
 have HX := Lib.hid hx
 obtain ⟨A, cap, rfl, -, -, -, -⟩ := hx
 have hset : ((((((((Array.replicate 8 (Value.int .u32 0)).setIfInBounds 0 (.int .u32 1779033703)).setIfInBounds 1 (.int .u32 3144134277)).setIfInBounds 2 (.int .u32 1013904242)).setIfInBounds 3 (.int .u32 2773480762)).setIfInBounds 4 (.int .u32 1359893119)).setIfInBounds 5 (.int .u32 2600822924)).setIfInBounds 6 (.int .u32 528734635)).setIfInBounds 7 (.int .u32 1541459225) = row32 begin8 := by
  rw [set8]; rfl
 have HS := Lib.hid hset
 clear hset hT
 have hh1 : ((w.alloc (.cells (Array.replicate 32 (.int .u8 0)) 47)).alloc (.cells (Array.replicate 8 (.int .u32 0)) 124)).heap[w.heap.size + 1]? = some (.cells (Array.replicate 8 (.int .u32 0)) 124 (0, 0)) := by
  have := heap_alloc_self (w.alloc (.cells (Array.replicate 32 (.int .u8 0)) 47)) (.cells (Array.replicate 8 (.int .u32 0)) 124)
  rwa [heap_alloc_size] at this
 have H1 := Lib.hid hh1
 clear hh1
 go_enter Tryz.func63, Tryz.ntmps63
 go_wp2_with (refine wpList_store_row rfl 124 _ _ rfl (w.heap.size + 1) rfl rfl H1.out (by rw [HS.out]; exact zero8.2) (by rw [HS.out]; rfl) (by rw [HS.out]; exact row32_one _) ?_; rw [HS.out])
 have hu0 : (((w.alloc (.cells (Array.replicate 32 (.int .u8 0)) 47)).alloc (.cells (Array.replicate 8 (.int .u32 0)) 124)).setRow (w.heap.size + 1) (row32 begin8)).heap[w.heap.size]? = some (.cells (Array.replicate 32 (.int .u8 0)) 47 (0, 0)) := by
  rw [setRow_other _ _ _ _ (by omega), heap_alloc_lt _ _ (by rw [heap_alloc_size]; omega)]; exact heap_alloc_self _ _
 have hu1 : (((w.alloc (.cells (Array.replicate 32 (.int .u8 0)) 47)).alloc (.cells (Array.replicate 8 (.int .u32 0)) 124)).setRow (w.heap.size + 1) (row32 begin8)).heap[w.heap.size + 1]? = some (.cells (row32 begin8) 124 (0, 0)) :=
  setRow_heap _ _ _ _ _ _ H1.out
 have hub : Below w.heap.size w (((w.alloc (.cells (Array.replicate 32 (.int .u8 0)) 47)).alloc (.cells (Array.replicate 8 (.int .u32 0)) 124)).setRow (w.heap.size + 1) (row32 begin8)) :=
  below_setRow (((Below.refl _ _).alloc (Nat.le_refl _) _).alloc (by simp) _) (by omega) _
 generalize ((w.alloc (.cells (Array.replicate 32 (.int .u8 0)) 47)).alloc (.cells (Array.replicate 8 (.int .u32 0)) 124)).setRow (w.heap.size + 1) (row32 begin8) = u at hu0 hu1 hub ⊢
 have U0 := Lib.hid hu0
 have U1 := Lib.hid hu1
 have UB := Lib.hid hub
 clear hu0 hu1 hub H1 HS
 refine (filled_any _ xs hl _ ((HX.out.below UB.out).more UB.out.size)).mono ?_
 rintro e w2 ⟨rfl, hf, b⟩
 have F0 := Lib.hid ((b.block _ (heap_lt U0.out)).trans U0.out)
 have F1 := Lib.hid ((b.block _ (heap_lt U1.out)).trans U1.out)
 have FX := Lib.hid hf
 have FB := Lib.hid (UB.out.trans (b.mono UB.out.size))
 obtain ⟨bf, hbf⟩ : ∃ bf, bf = u.heap.size := ⟨_, rfl⟩
 have GF : Hid (w.heap.size + 1 < bf) := Lib.hid (by rw [hbf]; exact heap_lt U1.out)
 rw [← hbf] at FX ⊢
 clear hf b U0 U1 UB hbf
 have hlen := fill_length xs
 obtain ⟨X, hX⟩ : ∃ X, X = fill xs := ⟨_, rfl⟩
 obtain ⟨N, hN⟩ : ∃ N, N = (xs.length + 8) / 64 + 1 := ⟨_, rfl⟩
 have hsum : sumL xs = told32 (hashTo X begin8 N) := by rw [hX, hN]; rfl
 rw [← hX, ← hN] at hlen
 rw [← hX] at FX
 rw [← hX, hlen]
 have SUM := Lib.hid hsum
 have LEN := Lib.hid hlen
 have NB : Hid (1 ≤ N ∧ N ≤ 100) := Lib.hid (by omega)
 clear hsum hlen hX hN u HX
 go_wp2_with fail
 go_loopw [4] (fun s4 wr => ∃ n off : Nat, n ≤ N ∧ s4 = .slice (some ⟨bf, off, none⟩) (64 * N - 64 * n) (64 * N - 64 * n) ∧ (n < N → off = 64 * n) ∧ SumAt w bf X n wr) (fun s4 _ => lenOf s4)
 case atStart => exact ⟨0, 0, by omega, rfl, fun _ => rfl, F0.out, F1.out, FX.out, FB.out⟩
 case round =>
  obtain ⟨n, off, hn, rfl, hoff, hat⟩ := hrel
  have AT := Lib.hid hat
  have OFF := Lib.hid hoff
  clear hat hoff F0 F1 FX FB
  by_cases hlt : n < N
  ·obtain rfl := OFF.out hlt
   have hk : 64 * n + 64 ≤ X.length := by have := LEN.out; omega
   have HK := Lib.hid hk
   clear hk OFF
   have hm : ∀ k, lenOf (.slice (some ⟨bf, k, none⟩) (64 * N - 64 * (n + 1)) (64 * N - 64 * (n + 1))) < lenOf (.slice (some ⟨bf, 64 * n, none⟩) (64 * N - 64 * n) (64 * N - 64 * n)) := fun k => by simp only [lenOf]; omega
   have HMM := Lib.hid hm
   clear hm
   obtain ⟨c, hc⟩ : ∃ c, c = 64 * N - 64 * n := ⟨_, rfl⟩
   have hc0 : (0 : Int) < c := by omega
   have hc64 : (64 : Int) ≤ c := by omega
   rw [← hc]
   have HC := Lib.hid hc
   clear hc
   go_wp2
   have hd : SumAt w bf X n wr.drew := AT.out.drew
   refine wp_region_still_tail 5 (by kernel_rfl) (by kernel_rfl) ?_
   change wpStill _ _ (World.drew wr) (fun a' => wpList _ _ _ _ a' (World.drew wr)) _ _
   generalize World.drew wr = q at hd ⊢
   have HD := Lib.hid hd
   have OKN := Lib.hid (hashTo_ok begin8_ok X n)
   have hload := run_load_row HD.out.2.1 Tryz.underlying124 (by rw [row32_size, OKN.out.1]; exact zero8.2)
   simp only [List.take_succ_cons, List.take_zero, List.drop_succ_cons, List.drop_zero]
   refine wpStill_load_row rfl 124 _ rfl (w.heap.size + 1) rfl hload ?_
   simp only [Act.put, List.setIfInBounds_toArray, List.set_cons_zero, List.set_cons_succ]
   clear hload hd
   have harr := run_arrayAt
   still_step
   still_step
   still_step
   clear harr
   refine wpStill_load_mid rfl 67 _ rfl bf (64 * n) rfl (run_load_block HD.out.2.2.1 HK.out) ?_
   simp only [Act.put, List.setIfInBounds_toArray, List.set_cons_zero, List.set_cons_succ]
   refine wpStill_nil ?_
   go_wp2_with fail
   refine (block_any _ OKN.out _ (by rw [List.length_take, List.length_drop]; have := HK.out; omega) _ (HT.out.below HD.out.2.2.2 HT.out.pos)).mono ?_
   rintro e w3 ⟨rfl, b⟩
   have hu := HD.out.below b
   have OK1 := Lib.hid (hashTo_ok begin8_ok X (n + 1))
   have HST : Hid (blockL (hashTo X begin8 n) ((X.drop (64 * n)).take 64) = hashTo X begin8 (n + 1)) := Lib.hid rfl
   rw [HST.out]
   have HU := Lib.hid hu
   clear hu b
   have hnew : SumAt w bf X (n + 1) (w3.setRow (w.heap.size + 1) (row32 (hashTo X begin8 (n + 1)))) := by
    obtain ⟨r0, r1, r2, r3⟩ := HU.out
    have g := GF.out
    refine ⟨?_, setRow_heap _ _ _ _ _ _ r1, ?_, below_setRow r3 (by omega) _⟩
    ·rw [setRow_other _ _ _ _ (by omega)]; exact r0
    ·rw [setRow_other _ _ _ _ (by omega)]; exact r2
   have HNEW := Lib.hid hnew
   clear hnew HD
   by_cases hlast : c = 64
   ·subst hlast
    go_wp2_with (refine wpList_store_row rfl 124 _ _ rfl (w.heap.size + 1) rfl rfl HU.out.2.1 (by rw [row32_size, OK1.out.1]; exact zero8.2) (by rw [row32_size, row32_size, OK1.out.1, OKN.out.1]) (row32_one _) ?_)
    go_roundw
    case measure => simp only [lenOf]; omega
    case rel =>
     have h0 := HC.out
     exact ⟨n + 1, 64 * n, by omega, by rw [show 64 * N - 64 * (n + 1) = 0 by omega], by omega, HNEW.out⟩
   ·have hne : ¬ c = 64 := hlast
    have hgt : (64 : Int) < c := by omega
    go_wp2_with (refine wpList_store_row rfl 124 _ _ rfl (w.heap.size + 1) rfl rfl HU.out.2.1 (by rw [row32_size, OK1.out.1]; exact zero8.2) (by rw [row32_size, row32_size, OK1.out.1, OKN.out.1]) (row32_one _) ?_)
    go_roundw
    case measure => simp only [lenOf]; omega
    case rel =>
     have h0 := HC.out
     exact ⟨n + 1, 64 * n + 64, by omega, by rw [show 64 * N - 64 * (n + 1) = c - 64 by omega], by omega, HNEW.out⟩
  ·obtain rfl : n = N := by omega
   obtain ⟨H, hH⟩ : ∃ H, H = hashTo X begin8 n := ⟨_, rfl⟩
   have OKH : Hid (W32 8 H) := Lib.hid (by rw [hH]; exact hashTo_ok begin8_ok X n)
   obtain ⟨r0, r1, r2, r3⟩ := AT.out
   rw [← hH] at r1
   have HEQ := Lib.hid hH
   have R0 := Lib.hid r0
   have R1 := Lib.hid r1
   have R3 := Lib.hid r3
   clear hH r0 r1 r2 r3 AT OFF hlt
   rw [Nat.sub_self]
   go_wp2_with fail
   have GB : Hid (w.heap.size + 1 < wr.heap.size) := Lib.hid (heap_lt R1.out)
   have hv0 := heap_alloc_self wr (.cells (Array.replicate 32 (.int .u8 0)) 47)
   have hv1 := (heap_alloc_lt wr (.cells (Array.replicate 32 (.int .u8 0)) 47) (heap_lt R0.out)).trans R0.out
   have hv2 := (heap_alloc_lt wr (.cells (Array.replicate 32 (.int .u8 0)) 47) (heap_lt R1.out)).trans R1.out
   have hv3 : Below w.heap.size w (wr.alloc (.cells (Array.replicate 32 (.int .u8 0)) 47)) := R3.out.alloc R3.out.size _
   generalize wr.alloc (.cells (Array.replicate 32 (.int .u8 0)) 47) = q at hv0 hv1 hv2 hv3 ⊢
   obtain ⟨bo, hbo⟩ : ∃ bo, bo = wr.heap.size := ⟨_, rfl⟩
   rw [← hbo] at hv0 GB ⊢
   have V0 := Lib.hid hv0
   have V1 := Lib.hid hv1
   have V2 := Lib.hid hv2
   have V3 := Lib.hid hv3
   clear hv0 hv1 hv2 hv3 hbo R0 R1 R3
   clear wr
   go_loopw [21] (fun s21 wx => ∃ i : Nat, i ≤ 32 ∧ s21 = .int .i64 i ∧ wx.heap[w.heap.size]? = some (.cells (Array.replicate 32 (.int .u8 0)) 47 (0, 0)) ∧ wx.heap[w.heap.size + 1]? = some (.cells (row32 H) 124 (0, 0)) ∧ wx.heap[bo]? = some (.cells (rowB (tf (told32 H) 0 i)) 47 (0, 0)) ∧ Below w.heap.size w wx) (fun s21 _ => 32 - (intOf s21).toNat)
   case atStart => exact ⟨0, by omega, rfl, V1.out, V2.out, by rw [tf_zero, rowB_zero, told32_length]; exact V0.out, V3.out⟩
   case round =>
    obtain ⟨i, hi, rfl, q0, q1, q2, q3⟩ := hrel
    clear V0 V1 V2 V3
    have Q0 := Lib.hid q0
    have Q1 := Lib.hid q1
    have Q2 := Lib.hid q2
    have Q3 := Lib.hid q3
    clear q0 q1 q2 q3
    by_cases hlt : i < 32
    ·have hlt' : (i : Int) < 32 := by omega
     obtain ⟨j, hj⟩ : ∃ j, j = i / 4 := ⟨_, rfl⟩
     obtain ⟨r, hr⟩ : ∃ r, r = i % 4 := ⟨_, rfl⟩
     obtain ⟨k, hk⟩ : ∃ k, k = 24 - 8 * r := ⟨_, rfl⟩
     have hjI : (i : Int) / 4 = j := by omega
     have hrI : (i : Int) % 4 = r := by omega
     have hrT : (i : Int).tmod 4 = r := by rw [Int.tmod_eq_emod_of_nonneg (by omega)]; exact hrI
     have hkI : (24 : Int) - (r : Int) * 8 = k := by omega
     have hkI' : (24 : Int) - 8 * (r : Int) = k := by omega
     have hj8 : (j : Int) < 8 := by omega
     have hr4 : (r : Int) < 4 := by omega
     have hk32 : (k : Int) < 32 := by omega
     have hset := tf_set (told32 H) 0 (i := i) (by rw [told32_length]; exact hlt)
     rw [told32_at H hlt, ← hj, ← hr, ← hk] at hset
     have hrow : (rowB (tf (told32 H) 0 i)).setIfInBounds i (.int .u8 (((H.getD j 0 : Nat) : Int) / 2 ^ k % 256)) = rowB (tf (told32 H) 0 (i + 1)) := by
      rw [← hset, ← rowB_set, UInt8.toNat_ofNat']
      congr 2
     have hc := row32_cell Q1.out (j := j) (n := H.getD j 0) (by rw [List.getD_eq_getElem?_getD, List.getElem?_eq_getElem (by rw [OKH.out.1]; omega)]; rfl)
     have hx := OKH.out.getD j
     obtain ⟨y, hc2⟩ : ∃ y, wr.cell? ⟨bo, i, none⟩ = some y := ⟨_, (cell_of_row wr bo i _ _ _ Q2.out).trans (rowB_at (l := tf (told32 H) 0 i) (j := i) (by rw [tf_length _ _ (by rw [told32_length]; omega), told32_length]; exact hlt))⟩
     have hf := frozen_of_row wr bo i _ _ Q2.out
     have HSET := Lib.hid hrow
     clear hrow hset hj hr hk
     generalize H.getD j 0 = x at *
     go_wp2
     go_roundw
     case measure => simp [intOf]; omega
     case rel =>
      have g := GB.out
      refine ⟨i + 1, by omega, by go_num, ?_, ?_, ?_, Q3.out.setCell (show w.heap.size ≤ bo by omega) _⟩
      ·rw [heap_setCell_other _ _ _ _ (show w.heap.size ≠ bo by omega)]; exact Q0.out
      ·rw [heap_setCell_other _ _ _ _ (show w.heap.size + 1 ≠ bo by omega)]; exact Q1.out
      ·rw [heap_setCell_same _ _ _ _ _ _ Q2.out, HSET.out]
    ·obtain rfl : i = 32 := by omega
     have hlt' : ¬ (32 : Int) < 32 := by omega
     have hall : rowB (tf (told32 H) 0 32) = rowB (sumL xs) := by
      have := tf_all (told32 H) (0 : UInt8)
      rw [told32_length] at this
      rw [this, SUM.out, HEQ.out]
     rw [hall] at Q2
     have hl32 : (sumL xs).length = 32 := by rw [SUM.out, told32_length]
     have HL := Lib.hid hl32
     clear hall hl32 hlt
     go_wp2_with (first
      | refine wpList_load_row rfl 47 _ rfl bo rfl Q2.out Tryz.underlying47 (by rw [rowB_size, HL.out]; exact zero32.2) ?_
      | refine wpList_store_row rfl 47 _ _ rfl w.heap.size rfl rfl Q0.out (by rw [rowB_size, HL.out]; exact zero32.2) (by rw [rowB_size, HL.out]; simp) (rowB_one _) ?_)
     refine bodyPost_ret (v := .agg (rowB (sumL xs))) ?_ rfl ⟨rfl, below_setRow Q3.out (Nat.le_refl _) _⟩
     exact results_cell_row rfl _ _ w.heap.size _ _ (0, 0) _ rfl (setRow_heap _ _ _ _ _ _ Q0.out) Tryz.underlying47 rfl (by rw [rowB_size, HL.out]; exact zero32.2)

theorem make_noughts (m : Nat) (h : m ≤ 10000) (w' : World) : (Instr.makeSlice 22 (.int .i64 (m : Int)) (.int .i64 (m : Int))).run Tryz.prog w' = .ok (.slice (some ⟨w'.heap.size, 0, none⟩) m m) (w'.alloc (.cells (rowB (List.replicate m 0)) 5)) := by
 obtain ⟨i0, hi, hz0, hz1, hz2⟩ := info_parts infoByte
 have := run_make (P := Tryz.prog) w' 22 5 i0 _ Tryz.underlying22 hi hz0 .i64 .i64 m m (by omega) (by omega) (by rw [hz2]; omega) (by omega)
 rw [this]
 rw [hz1]
 show Result.ok _ (w'.alloc (.cells (madeCells _ ((m : Int).toNat * 1)) _)) = _
 rw [Int.toNat_natCast, made_noughts]

end Go.Proofs.YteloiajocjahmaaGreatDoor
