/-
 The program's package pack: the numbers of single elements.
 Conditions: none.
-/
import Derived.Test.YteloiajocjahmaaGreatDoorSGPckP
import Derived.Test.YteloiajocjahmaaGreatDoorSGCodG
import Derived.Test.YteloiajocjahmaaGreatDoorSGPckM
set_option linter.unusedVariables false
set_option linter.unusedSimpArgs false
set_option maxRecDepth 100000
namespace Go.Proofs.YteloiajocjahmaaGreatDoor
open Go.RowKit

theorem pitself_any (x : Int) (w : World) :
  Calls Tryz.prog 94 #[.int .i64 x] w fun e w' => ∃ A n c, e = .returned (.slice A n c) ∧ n = ([x]).length ∧ IntsOwn w' w.heap.size (.slice A n c) ([x]) ∧ Below w.heap.size w w' := by
 go_enter Tryz.func94, Tryz.ntmps94
 go_wp2_with fail
 go_ret
 exact ⟨_, 1, 1, rfl, rfl, ints_own_alloc w [x] (by simp), below_new w _⟩
theorem ppoint_any (a b : Int) (w : World) :
  Calls Tryz.prog 56 #[.agg #[.int .i64 a, .int .i64 b]] w fun e w' => ∃ A n c, e = .returned (.slice A n c) ∧ n = ([a, b]).length ∧ IntsOwn w' w.heap.size (.slice A n c) ([a, b]) ∧ Below w.heap.size w w' := by
 have hq0 := heap_alloc_self w (.cells #[.int .i64 a, .int .i64 b] 57)
 have hqb := below_new w (.cells #[.int .i64 a, .int .i64 b] 57)
 go_enter Tryz.func56, Tryz.ntmps56
 go_upto_region 1 with fail
 generalize w.alloc (.cells #[.int .i64 a, .int .i64 b] 57) = q at hq0 hqb ⊢
 have BQ := Lib.hid hqb
 obtain ⟨k0, k1⟩ := cell2_of hq0
 clear hq0 hqb
 go_wp2_with fail
 go_ret
 exact ⟨_, 2, 2, rfl, rfl, (ints_own_alloc q [a, b] (by simp)).mono BQ.out.size, BQ.out.alloc BQ.out.size _⟩
theorem pflank_any (a b : Int) (w : World) :
  Calls Tryz.prog 97 #[.agg #[.int .i64 a, .int .i64 b]] w fun e w' => ∃ A n c, e = .returned (.slice A n c) ∧ n = ([a, b]).length ∧ IntsOwn w' w.heap.size (.slice A n c) ([a, b]) ∧ Below w.heap.size w w' := by
 have hq0 := heap_alloc_self w (.cells #[.int .i64 a, .int .i64 b] 98)
 have hqb := below_new w (.cells #[.int .i64 a, .int .i64 b] 98)
 go_enter Tryz.func97, Tryz.ntmps97
 go_upto_region 1 with fail
 generalize w.alloc (.cells #[.int .i64 a, .int .i64 b] 98) = q at hq0 hqb ⊢
 have BQ := Lib.hid hqb
 obtain ⟨k0, k1⟩ := cell2_of hq0
 clear hq0 hqb
 go_wp2_with fail
 go_ret
 exact ⟨_, 2, 2, rfl, rfl, (ints_own_alloc q [a, b] (by simp)).mono BQ.out.size, BQ.out.alloc BQ.out.size _⟩
theorem psig_any (a b d : Int) (w : World) :
  Calls Tryz.prog 58 #[.agg #[.int .i64 a, .int .i64 b, .int .i64 d]] w fun e w' => ∃ A n c, e = .returned (.slice A n c) ∧ n = ([a, b, d]).length ∧ IntsOwn w' w.heap.size (.slice A n c) ([a, b, d]) ∧ Below w.heap.size w w' := by
 have hq0 := heap_alloc_self w (.cells #[.int .i64 a, .int .i64 b, .int .i64 d] 59)
 have hqb := below_new w (.cells #[.int .i64 a, .int .i64 b, .int .i64 d] 59)
 go_enter Tryz.func58, Tryz.ntmps58
 go_upto_region 1 with fail
 generalize w.alloc (.cells #[.int .i64 a, .int .i64 b, .int .i64 d] 59) = q at hq0 hqb ⊢
 have BQ := Lib.hid hqb
 obtain ⟨k0, k1, k2⟩ := cell3_of hq0
 clear hq0 hqb
 go_wp2_with fail
 go_ret
 exact ⟨_, 3, 3, rfl, rfl, (ints_own_alloc q [a, b, d] (by simp)).mono BQ.out.size, BQ.out.alloc BQ.out.size _⟩
set_option maxHeartbeats 4000000 in
theorem psecnums_any (v : Value) (s : Sec) (w : World) (h : SecV w w.heap.size v s) (hl : s.2.2.length ≤ 5000) :
  Calls Tryz.prog 54 #[v] w fun e w' => ∃ A n c, e = .returned (.slice A n c) ∧ n = (numsS s).length ∧ IntsOwn w' w.heap.size (.slice A n c) (numsS s) ∧ Below w.heap.size w w' := by
 obtain ⟨u, rfl, hu⟩ := h
 obtain ⟨id, pt, l⟩ := s
 dsimp only at hl hu ⊢
 have HU := Lib.hid hu
 obtain ⟨U, cu, rfl, hcl, hcm⟩ := hu.slice
 obtain ⟨n, hn⟩ : ∃ n, n = l.length := ⟨_, rfl⟩
 have HN := Lib.hid hn
 have HA : Hid (JoinsIn w w.heap.size (.slice U n cu) l) := Lib.hid (by rw [hn]; exact HU.out)
 have hn4 : n ≤ 5000 := by rw [hn]; exact hl
 have HL : Hid (n ≤ 5000) := Lib.hid hn4
 rw [← hn]
 clear hn HU hu hl hcl hcm
 have hq0 := heap_alloc_self w (.cells #[.int .i64 id, .int .i64 pt, .slice U n cu] 63)
 have hqb := below_new w (.cells #[.int .i64 id, .int .i64 pt, .slice U n cu] 63)
 go_enter Tryz.func54, Tryz.ntmps54
 go_upto_region 1 with fail
 generalize w.alloc (.cells #[.int .i64 id, .int .i64 pt, .slice U n cu] 63) = q at hq0 hqb ⊢
 have BQ := Lib.hid hqb
 obtain ⟨k0, k1, k2⟩ := cell3_of hq0
 have k2a : ∀ o : Obj, (q.alloc o).cell? ⟨w.heap.size, 2, none⟩ = some (.slice U n cu) := fun o => by rw [(below_new q o).cell (p := ⟨w.heap.size, 2, none⟩) (heap_lt hq0)]; exact k2
 clear hq0 hqb
 go_upto_region 2 with fail
 go_wp2_with fail
 have O0 := Lib.hid ((ints_own_alloc q [id, pt] (by simp)).mono BQ.out.size)
 have B0 := Lib.hid (BQ.out.alloc BQ.out.size (.cells (([id, pt] : List Int).map fun z => Value.int .i64 z).toArray 3))
 go_loopw [3, 14] (fun s3 s14 wr => ∃ (i m c : Nat) (A : Option Addr), s14 = .int .i64 i ∧ i ≤ n ∧ s3 = .slice A m c ∧ m = 2 + 2 * i ∧ IntsOwn wr w.heap.size (.slice A m c) (id :: pt :: (l.take i).flatMap numsJ) ∧ Below w.heap.size w wr) (fun _ s14 _ => n - (intOf s14).toNat)
 case atStart => exact ⟨0, 2, 2, _, by go_num, by omega, rfl, rfl, by rw [List.take_zero]; exact O0.out, B0.out⟩
 case round =>
  obtain ⟨i, m, c, A, rfl, hi, rfl, hm, ho, hb⟩ := hrel
  have HO := Lib.hid ho
  have BW := Lib.hid hb
  have HM := Lib.hid hm
  clear ho hb hm k0 k1 k2 k2a
  by_cases hlt : i < n
  ·have hlt' : (i : Int) < n := by omega
   have hir : i < l.length := by rw [← HN.out]; exact hlt
   obtain ⟨bk, off, rfl, hbk, hc0, hc1⟩ := ((HA.out.below joinR BW.out).more joinR BW.out.size).at hir
   obtain ⟨a, b, hx⟩ : ∃ a b, l[i] = (a, b) := ⟨_, _, rfl⟩
   have HX := Lib.hid hx
   rw [hx] at hc0 hc1
   have hg0 : wr.cell? ⟨bk, off + i * 2, none⟩ = some (.int .i64 a) := hc0
   have hg1 : wr.cell? ⟨bk, off + i * 2 + 1, none⟩ = some (.int .i64 b) := hc1
   clear hc0 hc1 hx hbk
   have NX : Hid (id :: pt :: (l.take i).flatMap numsJ ++ [a, b] = id :: pt :: (l.take (i + 1)).flatMap numsJ) := Lib.hid (by rw [take_snoc hir, HX.out, List.flatMap_append]; rfl)
   have HML : Hid (m = (id :: pt :: (l.take i).flatMap numsJ).length) := Lib.hid (by rw [List.length_cons, List.length_cons, numsJ_len, List.length_take, HM.out]; omega)
   obtain ⟨q1, hq⟩ : ∃ q_, q_ = wr.alloc (.cells #[.int .i64 a, .int .i64 b] 92) := ⟨_, rfl⟩
   have x1 := heap_alloc_self wr (.cells #[.int .i64 a, .int .i64 b] 92)
   have b1 := below_new wr (.cells #[.int .i64 a, .int .i64 b] 92)
   rw [← hq] at x1 b1
   go_upto_region 5 with fail
   rw [← hq]
   have X1 := Lib.hid x1
   have B1 := Lib.hid (BW.out.trans (b1.mono BW.out.size))
   generalize wr.heap.size = p1 at X1 ⊢
   clear hq hg0 hg1
   have O1 := Lib.hid (HO.out.below intR b1)
   clear x1 b1
   obtain ⟨k0, k1⟩ := cell2_of X1.out
   have HMB : Hid (m ≤ 20000) := Lib.hid (by have := HM.out; have := HL.out; omega)
   go_wp2_with ((with_reducible show wpList _ _ _ (⟨some 24, _, _, _, _, _⟩ :: _) _ _); refine wpList_append_ints rfl (.tmp 18) (.tmp 23) rfl (lo := w.heap.size) rfl (O1.out.below intR (below_new _ _)) HML.out rfl (ints_alloc _ [a, b] (by simp)) (m + 2) rfl (by have := HMB.out; omega) (by have := B1.out.size; simp; omega) ?_; intro A5 c5 w5 ho5 hb5 _; have O5 := Lib.hid ho5; have B5 := Lib.hid hb5; clear ho5 hb5)
   go_roundw
   case measure => simp [intOf]; omega
   case rel => exact ⟨i + 1, m + 2, c5, A5, by go_num, by omega, rfl, by have := HM.out; omega, by rw [← NX.out]; exact O5.out, (B1.out.alloc B1.out.size _).trans B5.out⟩
  ·obtain rfl : n = i := by omega
   have hlt' : ¬ (n : Int) < n := by omega
   have HE : Hid (id :: pt :: (l.take n).flatMap numsJ = numsS (id, pt, l)) := Lib.hid (by rw [HN.out, List.take_length]; rfl)
   go_wp2_with fail
   go_ret
   exact ⟨_, _, _, rfl, by rw [numsS_len, HM.out, HN.out], by rw [← HE.out]; exact HO.out, BW.out⟩

/-- What counted has answered after i elements. -/
def cntL {α : Type} (f : α → List Int) (L : List Int) (l : List α) (i : Nat) : List Int := L ++ (l.length : Int) :: (l.take i).flatMap f
theorem cntL_zero {α : Type} (f : α → List Int) (L : List Int) (l : List α) : cntL f L l 0 = L ++ [(l.length : Int)] := by simp [cntL]
theorem cntL_succ {α : Type} {f : α → List Int} {L : List Int} {l : List α} {i : Nat} (hi : i < l.length) : cntL f L l i ++ f l[i] = cntL f L l (i + 1) := by
 rw [cntL, cntL, take_snoc hi, List.flatMap_append]
 simp
theorem cntL_all {α : Type} {f : α → List Int} {L : List Int} {l : List α} {i : Nat} (hi : i = l.length) : cntL f L l i = L ++ (l.length : Int) :: l.flatMap f := by rw [cntL, hi, List.take_length]
theorem cntL_len {α : Type} (f : α → List Int) (L : List Int) (l : List α) (i : Nat) : (cntL f L l i).length ≤ L.length + 1 + (l.flatMap f).length := by
 have h : (l.take i).flatMap f ++ (l.drop i).flatMap f = l.flatMap f := by rw [← List.flatMap_append, List.take_append_drop]
 have := congrArg List.length h
 rw [List.length_append] at this
 rw [cntL, List.length_append, List.length_cons]
 omega
set_option maxHeartbeats 4000000 in
theorem pcount_int (A0 : Option Addr) (n0 c0 lo : Nat) (L : List Int) (v : Value) (l : List Int) (w : World) (hO : IntsOwn w lo (.slice A0 n0 c0) L) (hn0 : n0 = L.length) (h : IntsIn w lo v l) (hlo : lo ≤ w.heap.size) (hbd : L.length + 1 + (l.flatMap (fun z : Int => [z])).length ≤ 10000) (hll : l.length ≤ 10000) (Lr : List Int) (hLr : L ++ (l.length : Int) :: l.flatMap (fun z : Int => [z]) = Lr) :
  Calls Tryz.prog 95 #[.slice A0 n0 c0, v, .func (.func 94) #[] #[]] w fun e w' => ∃ A n c, e = .returned (.slice A n c) ∧ n = (Lr).length ∧ IntsOwn w' lo (.slice A n c) (Lr) ∧ Below lo w w' := by
 have HLR := Lib.hid hLr
 clear hLr
 have HO0 := Lib.hid hO
 have HN0 := Lib.hid hn0
 have HLO := Lib.hid hlo
 have HBD := Lib.hid hbd
 have H_ := Lib.hid h
 obtain ⟨A, c, rfl, hcl, hcm⟩ := h.slice
 obtain ⟨n, hn⟩ : ∃ n, n = l.length := ⟨_, rfl⟩
 have HN := Lib.hid hn
 have HA : Hid (IntsIn w lo (.slice A n c) l) := Lib.hid (by rw [hn]; exact H_.out)
 have hn4 : n ≤ 10000 := by rw [hn]; exact hll
 have hbn : n0 ≤ 10000 := by rw [hn0]; omega
 have HLL := Lib.hid hn4
 rw [← hn]
 have I1 := Lib.hid (ints_alloc w [(n : Int)] (by simp))
 have O1_ := Lib.hid (hO.below intR (below_new w (.cells (([(n : Int)] : List Int).map fun z => Value.int .i64 z).toArray 3)))
 clear hn hO hn0 hlo hbd hll H_ h hcl hcm
 go_enter Tryz.func95, Tryz.ntmps95
 go_wp2_with ((with_reducible show wpList _ _ _ (⟨some 13, _, _, _, _, _⟩ :: _) _ _); refine wpList_append_ints rfl (.tmp 9) (.tmp 12) rfl (lo := lo) rfl O1_.out HN0.out rfl I1.out (n0 + 1) rfl (by omega) (by have := HLO.out; simp; omega) ?_; intro A5 c5 w5 ho5 hb5 _; have O5 := Lib.hid ho5; have B5 := Lib.hid hb5; clear ho5 hb5)
 have BB5 : Hid (Below lo w w5) := Lib.hid (((below_new w _).mono HLO.out).trans B5.out)
 go_loopw [0, 16] (fun s0 s16 wr => ∃ (i m c : Nat) (A : Option Addr), s16 = .int .i64 i ∧ i ≤ n ∧ s0 = .slice A m c ∧ m = (cntL (fun z : Int => [z]) L l i).length ∧ m ≤ 10000 ∧ IntsOwn wr lo (.slice A m c) (cntL (fun z : Int => [z]) L l i) ∧ Below lo w wr) (fun _ s16 _ => n - (intOf s16).toNat)
 case atStart => exact ⟨0, n0 + 1, c5, A5, by go_num, by omega, rfl, by rw [cntL_zero, List.length_append, HN0.out]; rfl, by have := HBD.out; have := HN0.out; omega, by rw [cntL_zero, ← HN.out]; exact O5.out, BB5.out⟩
 case round =>
  obtain ⟨i, m, c, A, rfl, hi, rfl, hm, hmb, ho, hb⟩ := hrel
  have HO := Lib.hid ho
  have BW := Lib.hid hb
  have HM := Lib.hid hm
  clear ho hb hm O5 B5 BB5 O1_ I1 HO0
  by_cases hlt : i < n
  ·have hlt' : (i : Int) < n := by omega
   have hir : i < l.length := by rw [← HN.out]; exact hlt
   obtain ⟨bk, off, rfl, hbk, hc0⟩ := ((HA.out.below intR BW.out).more intR (Nat.le_trans HLO.out BW.out.size)).at hir
   obtain ⟨x, hx⟩ : ∃ x, l[i] = x := ⟨_, rfl⟩
   have HX := Lib.hid hx
   rw [hx] at hc0
   have hg0 : wr.cell? ⟨bk, off + i, none⟩ = some (.int .i64 x) := by simpa [IntR] using hc0
   clear hc0 hx hbk
   have B1 := BW
   have O1 := HO
   go_wp2_with fail
   refine (pitself_any x wr).mono ?_
   rintro e w2 ⟨A2, n2, c2, rfl, hn2, ho2, b2⟩
   have O2 := Lib.hid (O1.out.below intR b2)
   have E2 := Lib.hid (ho2.in_ intR_cells)
   have B2 := Lib.hid (B1.out.trans (b2.mono (Nat.le_trans HLO.out B1.out.size)))
   have NX := Lib.hid (cntL_succ (f := (fun z : Int => [z])) (L := L) hir)
   have LX := Lib.hid (cntL_len (fun z : Int => [z]) L l (i + 1))
   rw [HX.out] at NX
   have HMN : Hid (m + n2 = (cntL (fun z : Int => [z]) L l (i + 1)).length) := Lib.hid (by rw [← NX.out, List.length_append, ← HM.out, hn2]; try rfl)
   have HMN2 : Hid (m + n2 ≤ 10000) := Lib.hid (by rw [HMN.out]; exact Nat.le_trans LX.out HBD.out)
   have N2 := Lib.hid hn2
   clear ho2 b2 hn2
   go_wp2_with ((with_reducible show wpList _ _ _ (⟨some 24, _, _, _, _, _⟩ :: _) _ _); refine wpList_append_ints rfl (.tmp 20) (.tmp 23) rfl (lo := lo) rfl O2.out HM.out rfl E2.out (m + n2) (by rw [← N2.out]) (by have := HMN2.out; omega) (Nat.le_trans HLO.out B2.out.size) ?_; intro A5 c5 w5 ho5 hb5 _; have O5 := Lib.hid ho5; have B5 := Lib.hid hb5; clear ho5 hb5)
   go_roundw
   case measure => simp [intOf]; omega
   case rel => exact ⟨i + 1, m + n2, c5, A5, by go_num, by omega, rfl, HMN.out, HMN2.out, by rw [← NX.out]; exact O5.out, B2.out.trans B5.out⟩
  ·obtain rfl : n = i := by omega
   have hlt' : ¬ (n : Int) < n := by omega
   have HE : Hid (cntL (fun z : Int => [z]) L l n = Lr) := Lib.hid (by rw [cntL_all HN.out]; exact HLR.out)
   go_wp2_with fail
   go_ret
   exact ⟨_, _, _, rfl, by rw [HM.out, HE.out], by rw [← HE.out]; exact HO.out, BW.out⟩
set_option maxHeartbeats 4000000 in
theorem pcount_flank (A0 : Option Addr) (n0 c0 lo : Nat) (L : List Int) (v : Value) (l : List Jn) (w : World) (hO : IntsOwn w lo (.slice A0 n0 c0) L) (hn0 : n0 = L.length) (h : JoinsIn w lo v l) (hlo : lo ≤ w.heap.size) (hbd : L.length + 1 + (l.flatMap numsJ).length ≤ 10000) (hll : l.length ≤ 10000) (Lr : List Int) (hLr : L ++ (l.length : Int) :: l.flatMap numsJ = Lr) :
  Calls Tryz.prog 96 #[.slice A0 n0 c0, v, .func (.func 97) #[] #[]] w fun e w' => ∃ A n c, e = .returned (.slice A n c) ∧ n = (Lr).length ∧ IntsOwn w' lo (.slice A n c) (Lr) ∧ Below lo w w' := by
 have HLR := Lib.hid hLr
 clear hLr
 have HO0 := Lib.hid hO
 have HN0 := Lib.hid hn0
 have HLO := Lib.hid hlo
 have HBD := Lib.hid hbd
 have H_ := Lib.hid h
 obtain ⟨A, c, rfl, hcl, hcm⟩ := h.slice
 obtain ⟨n, hn⟩ : ∃ n, n = l.length := ⟨_, rfl⟩
 have HN := Lib.hid hn
 have HA : Hid (JoinsIn w lo (.slice A n c) l) := Lib.hid (by rw [hn]; exact H_.out)
 have hn4 : n ≤ 10000 := by rw [hn]; exact hll
 have hbn : n0 ≤ 10000 := by rw [hn0]; omega
 have HLL := Lib.hid hn4
 rw [← hn]
 have I1 := Lib.hid (ints_alloc w [(n : Int)] (by simp))
 have O1_ := Lib.hid (hO.below intR (below_new w (.cells (([(n : Int)] : List Int).map fun z => Value.int .i64 z).toArray 3)))
 clear hn hO hn0 hlo hbd hll H_ h hcl hcm
 go_enter Tryz.func96, Tryz.ntmps96
 go_wp2_with ((with_reducible show wpList _ _ _ (⟨some 13, _, _, _, _, _⟩ :: _) _ _); refine wpList_append_ints rfl (.tmp 9) (.tmp 12) rfl (lo := lo) rfl O1_.out HN0.out rfl I1.out (n0 + 1) rfl (by omega) (by have := HLO.out; simp; omega) ?_; intro A5 c5 w5 ho5 hb5 _; have O5 := Lib.hid ho5; have B5 := Lib.hid hb5; clear ho5 hb5)
 have BB5 : Hid (Below lo w w5) := Lib.hid (((below_new w _).mono HLO.out).trans B5.out)
 go_loopw [0, 16] (fun s0 s16 wr => ∃ (i m c : Nat) (A : Option Addr), s16 = .int .i64 i ∧ i ≤ n ∧ s0 = .slice A m c ∧ m = (cntL numsJ L l i).length ∧ m ≤ 10000 ∧ IntsOwn wr lo (.slice A m c) (cntL numsJ L l i) ∧ Below lo w wr) (fun _ s16 _ => n - (intOf s16).toNat)
 case atStart => exact ⟨0, n0 + 1, c5, A5, by go_num, by omega, rfl, by rw [cntL_zero, List.length_append, HN0.out]; rfl, by have := HBD.out; have := HN0.out; omega, by rw [cntL_zero, ← HN.out]; exact O5.out, BB5.out⟩
 case round =>
  obtain ⟨i, m, c, A, rfl, hi, rfl, hm, hmb, ho, hb⟩ := hrel
  have HO := Lib.hid ho
  have BW := Lib.hid hb
  have HM := Lib.hid hm
  clear ho hb hm O5 B5 BB5 O1_ I1 HO0
  by_cases hlt : i < n
  ·have hlt' : (i : Int) < n := by omega
   have hir : i < l.length := by rw [← HN.out]; exact hlt
   obtain ⟨bk, off, rfl, hbk, hc0, hc1⟩ := ((HA.out.below joinR BW.out).more joinR (Nat.le_trans HLO.out BW.out.size)).at hir
   obtain ⟨a, b, hx⟩ : ∃ a b, l[i] = (a, b) := ⟨_, _, rfl⟩
   have HX := Lib.hid hx
   rw [hx] at hc0 hc1
   have hg0 : wr.cell? ⟨bk, off + i * 2, none⟩ = some (.int .i64 a) := hc0
   have hg1 : wr.cell? ⟨bk, off + i * 2 + 1, none⟩ = some (.int .i64 b) := hc1
   clear hc0 hc1 hx hbk
   obtain ⟨q1, hq⟩ : ∃ q_, q_ = wr.alloc (.cells #[.int .i64 a, .int .i64 b] 98) := ⟨_, rfl⟩
   have x1 := heap_alloc_self wr (.cells #[.int .i64 a, .int .i64 b] 98)
   have b1 := below_new wr (.cells #[.int .i64 a, .int .i64 b] 98)
   rw [← hq] at x1 b1
   go_upto_region 5 with fail
   rw [← hq]
   have X1 := Lib.hid x1
   have B1 := Lib.hid (BW.out.trans (b1.mono (Nat.le_trans HLO.out BW.out.size)))
   generalize wr.heap.size = p1 at X1 ⊢
   clear hq hg0 hg1
   have O1 := Lib.hid (HO.out.below intR b1)
   clear x1 b1
   obtain ⟨k0, k1⟩ := cell2_of X1.out
   go_wp2_with fail
   refine (pflank_any a b q1).mono ?_
   rintro e w2 ⟨A2, n2, c2, rfl, hn2, ho2, b2⟩
   have O2 := Lib.hid (O1.out.below intR b2)
   have E2 := Lib.hid (ho2.in_ intR_cells)
   have B2 := Lib.hid (B1.out.trans (b2.mono (Nat.le_trans HLO.out B1.out.size)))
   have NX := Lib.hid (cntL_succ (f := numsJ) (L := L) hir)
   have LX := Lib.hid (cntL_len numsJ L l (i + 1))
   rw [HX.out] at NX
   have HMN : Hid (m + n2 = (cntL numsJ L l (i + 1)).length) := Lib.hid (by rw [← NX.out, List.length_append, ← HM.out, hn2]; try rfl)
   have HMN2 : Hid (m + n2 ≤ 10000) := Lib.hid (by rw [HMN.out]; exact Nat.le_trans LX.out HBD.out)
   have N2 := Lib.hid hn2
   clear ho2 b2 hn2
   go_wp2_with ((with_reducible show wpList _ _ _ (⟨some 24, _, _, _, _, _⟩ :: _) _ _); refine wpList_append_ints rfl (.tmp 20) (.tmp 23) rfl (lo := lo) rfl O2.out HM.out rfl E2.out (m + n2) (by rw [← N2.out]) (by have := HMN2.out; omega) (Nat.le_trans HLO.out B2.out.size) ?_; intro A5 c5 w5 ho5 hb5 _; have O5 := Lib.hid ho5; have B5 := Lib.hid hb5; clear ho5 hb5)
   go_roundw
   case measure => simp [intOf]; omega
   case rel => exact ⟨i + 1, m + n2, c5, A5, by go_num, by omega, rfl, HMN.out, HMN2.out, by rw [← NX.out]; exact O5.out, B2.out.trans B5.out⟩
  ·obtain rfl : n = i := by omega
   have hlt' : ¬ (n : Int) < n := by omega
   have HE : Hid (cntL numsJ L l n = Lr) := Lib.hid (by rw [cntL_all HN.out]; exact HLR.out)
   go_wp2_with fail
   go_ret
   exact ⟨_, _, _, rfl, by rw [HM.out, HE.out], by rw [← HE.out]; exact HO.out, BW.out⟩
set_option maxHeartbeats 4000000 in
theorem pcount_point (A0 : Option Addr) (n0 c0 lo : Nat) (L : List Int) (v : Value) (l : List Jn) (w : World) (hO : IntsOwn w lo (.slice A0 n0 c0) L) (hn0 : n0 = L.length) (h : JoinsIn w lo v l) (hlo : lo ≤ w.heap.size) (hbd : L.length + 1 + (l.flatMap numsJ).length ≤ 10000) (hll : l.length ≤ 10000) (Lr : List Int) (hLr : L ++ (l.length : Int) :: l.flatMap numsJ = Lr) :
  Calls Tryz.prog 55 #[.slice A0 n0 c0, v, .func (.func 56) #[] #[]] w fun e w' => ∃ A n c, e = .returned (.slice A n c) ∧ n = (Lr).length ∧ IntsOwn w' lo (.slice A n c) (Lr) ∧ Below lo w w' := by
 have HLR := Lib.hid hLr
 clear hLr
 have HO0 := Lib.hid hO
 have HN0 := Lib.hid hn0
 have HLO := Lib.hid hlo
 have HBD := Lib.hid hbd
 have H_ := Lib.hid h
 obtain ⟨A, c, rfl, hcl, hcm⟩ := h.slice
 obtain ⟨n, hn⟩ : ∃ n, n = l.length := ⟨_, rfl⟩
 have HN := Lib.hid hn
 have HA : Hid (JoinsIn w lo (.slice A n c) l) := Lib.hid (by rw [hn]; exact H_.out)
 have hn4 : n ≤ 10000 := by rw [hn]; exact hll
 have hbn : n0 ≤ 10000 := by rw [hn0]; omega
 have HLL := Lib.hid hn4
 rw [← hn]
 have I1 := Lib.hid (ints_alloc w [(n : Int)] (by simp))
 have O1_ := Lib.hid (hO.below intR (below_new w (.cells (([(n : Int)] : List Int).map fun z => Value.int .i64 z).toArray 3)))
 clear hn hO hn0 hlo hbd hll H_ h hcl hcm
 go_enter Tryz.func55, Tryz.ntmps55
 go_wp2_with ((with_reducible show wpList _ _ _ (⟨some 13, _, _, _, _, _⟩ :: _) _ _); refine wpList_append_ints rfl (.tmp 9) (.tmp 12) rfl (lo := lo) rfl O1_.out HN0.out rfl I1.out (n0 + 1) rfl (by omega) (by have := HLO.out; simp; omega) ?_; intro A5 c5 w5 ho5 hb5 _; have O5 := Lib.hid ho5; have B5 := Lib.hid hb5; clear ho5 hb5)
 have BB5 : Hid (Below lo w w5) := Lib.hid (((below_new w _).mono HLO.out).trans B5.out)
 go_loopw [0, 16] (fun s0 s16 wr => ∃ (i m c : Nat) (A : Option Addr), s16 = .int .i64 i ∧ i ≤ n ∧ s0 = .slice A m c ∧ m = (cntL numsJ L l i).length ∧ m ≤ 10000 ∧ IntsOwn wr lo (.slice A m c) (cntL numsJ L l i) ∧ Below lo w wr) (fun _ s16 _ => n - (intOf s16).toNat)
 case atStart => exact ⟨0, n0 + 1, c5, A5, by go_num, by omega, rfl, by rw [cntL_zero, List.length_append, HN0.out]; rfl, by have := HBD.out; have := HN0.out; omega, by rw [cntL_zero, ← HN.out]; exact O5.out, BB5.out⟩
 case round =>
  obtain ⟨i, m, c, A, rfl, hi, rfl, hm, hmb, ho, hb⟩ := hrel
  have HO := Lib.hid ho
  have BW := Lib.hid hb
  have HM := Lib.hid hm
  clear ho hb hm O5 B5 BB5 O1_ I1 HO0
  by_cases hlt : i < n
  ·have hlt' : (i : Int) < n := by omega
   have hir : i < l.length := by rw [← HN.out]; exact hlt
   obtain ⟨bk, off, rfl, hbk, hc0, hc1⟩ := ((HA.out.below joinR BW.out).more joinR (Nat.le_trans HLO.out BW.out.size)).at hir
   obtain ⟨a, b, hx⟩ : ∃ a b, l[i] = (a, b) := ⟨_, _, rfl⟩
   have HX := Lib.hid hx
   rw [hx] at hc0 hc1
   have hg0 : wr.cell? ⟨bk, off + i * 2, none⟩ = some (.int .i64 a) := hc0
   have hg1 : wr.cell? ⟨bk, off + i * 2 + 1, none⟩ = some (.int .i64 b) := hc1
   clear hc0 hc1 hx hbk
   obtain ⟨q1, hq⟩ : ∃ q_, q_ = wr.alloc (.cells #[.int .i64 a, .int .i64 b] 57) := ⟨_, rfl⟩
   have x1 := heap_alloc_self wr (.cells #[.int .i64 a, .int .i64 b] 57)
   have b1 := below_new wr (.cells #[.int .i64 a, .int .i64 b] 57)
   rw [← hq] at x1 b1
   go_upto_region 5 with fail
   rw [← hq]
   have X1 := Lib.hid x1
   have B1 := Lib.hid (BW.out.trans (b1.mono (Nat.le_trans HLO.out BW.out.size)))
   generalize wr.heap.size = p1 at X1 ⊢
   clear hq hg0 hg1
   have O1 := Lib.hid (HO.out.below intR b1)
   clear x1 b1
   obtain ⟨k0, k1⟩ := cell2_of X1.out
   go_wp2_with fail
   refine (ppoint_any a b q1).mono ?_
   rintro e w2 ⟨A2, n2, c2, rfl, hn2, ho2, b2⟩
   have O2 := Lib.hid (O1.out.below intR b2)
   have E2 := Lib.hid (ho2.in_ intR_cells)
   have B2 := Lib.hid (B1.out.trans (b2.mono (Nat.le_trans HLO.out B1.out.size)))
   have NX := Lib.hid (cntL_succ (f := numsJ) (L := L) hir)
   have LX := Lib.hid (cntL_len numsJ L l (i + 1))
   rw [HX.out] at NX
   have HMN : Hid (m + n2 = (cntL numsJ L l (i + 1)).length) := Lib.hid (by rw [← NX.out, List.length_append, ← HM.out, hn2]; try rfl)
   have HMN2 : Hid (m + n2 ≤ 10000) := Lib.hid (by rw [HMN.out]; exact Nat.le_trans LX.out HBD.out)
   have N2 := Lib.hid hn2
   clear ho2 b2 hn2
   go_wp2_with ((with_reducible show wpList _ _ _ (⟨some 24, _, _, _, _, _⟩ :: _) _ _); refine wpList_append_ints rfl (.tmp 20) (.tmp 23) rfl (lo := lo) rfl O2.out HM.out rfl E2.out (m + n2) (by rw [← N2.out]) (by have := HMN2.out; omega) (Nat.le_trans HLO.out B2.out.size) ?_; intro A5 c5 w5 ho5 hb5 _; have O5 := Lib.hid ho5; have B5 := Lib.hid hb5; clear ho5 hb5)
   go_roundw
   case measure => simp [intOf]; omega
   case rel => exact ⟨i + 1, m + n2, c5, A5, by go_num, by omega, rfl, HMN.out, HMN2.out, by rw [← NX.out]; exact O5.out, B2.out.trans B5.out⟩
  ·obtain rfl : n = i := by omega
   have hlt' : ¬ (n : Int) < n := by omega
   have HE : Hid (cntL numsJ L l n = Lr) := Lib.hid (by rw [cntL_all HN.out]; exact HLR.out)
   go_wp2_with fail
   go_ret
   exact ⟨_, _, _, rfl, by rw [HM.out, HE.out], by rw [← HE.out]; exact HO.out, BW.out⟩
set_option maxHeartbeats 4000000 in
theorem pcount_signal (A0 : Option Addr) (n0 c0 lo : Nat) (L : List Int) (v : Value) (l : List Sg) (w : World) (hO : IntsOwn w lo (.slice A0 n0 c0) L) (hn0 : n0 = L.length) (h : SigsIn w lo v l) (hlo : lo ≤ w.heap.size) (hbd : L.length + 1 + (l.flatMap numsG).length ≤ 10000) (hll : l.length ≤ 10000) (Lr : List Int) (hLr : L ++ (l.length : Int) :: l.flatMap numsG = Lr) :
  Calls Tryz.prog 57 #[.slice A0 n0 c0, v, .func (.func 58) #[] #[]] w fun e w' => ∃ A n c, e = .returned (.slice A n c) ∧ n = (Lr).length ∧ IntsOwn w' lo (.slice A n c) (Lr) ∧ Below lo w w' := by
 have HLR := Lib.hid hLr
 clear hLr
 have HO0 := Lib.hid hO
 have HN0 := Lib.hid hn0
 have HLO := Lib.hid hlo
 have HBD := Lib.hid hbd
 have H_ := Lib.hid h
 obtain ⟨A, c, rfl, hcl, hcm⟩ := h.slice
 obtain ⟨n, hn⟩ : ∃ n, n = l.length := ⟨_, rfl⟩
 have HN := Lib.hid hn
 have HA : Hid (SigsIn w lo (.slice A n c) l) := Lib.hid (by rw [hn]; exact H_.out)
 have hn4 : n ≤ 10000 := by rw [hn]; exact hll
 have hbn : n0 ≤ 10000 := by rw [hn0]; omega
 have HLL := Lib.hid hn4
 rw [← hn]
 have I1 := Lib.hid (ints_alloc w [(n : Int)] (by simp))
 have O1_ := Lib.hid (hO.below intR (below_new w (.cells (([(n : Int)] : List Int).map fun z => Value.int .i64 z).toArray 3)))
 clear hn hO hn0 hlo hbd hll H_ h hcl hcm
 go_enter Tryz.func57, Tryz.ntmps57
 go_wp2_with ((with_reducible show wpList _ _ _ (⟨some 13, _, _, _, _, _⟩ :: _) _ _); refine wpList_append_ints rfl (.tmp 9) (.tmp 12) rfl (lo := lo) rfl O1_.out HN0.out rfl I1.out (n0 + 1) rfl (by omega) (by have := HLO.out; simp; omega) ?_; intro A5 c5 w5 ho5 hb5 _; have O5 := Lib.hid ho5; have B5 := Lib.hid hb5; clear ho5 hb5)
 have BB5 : Hid (Below lo w w5) := Lib.hid (((below_new w _).mono HLO.out).trans B5.out)
 go_loopw [0, 16] (fun s0 s16 wr => ∃ (i m c : Nat) (A : Option Addr), s16 = .int .i64 i ∧ i ≤ n ∧ s0 = .slice A m c ∧ m = (cntL numsG L l i).length ∧ m ≤ 10000 ∧ IntsOwn wr lo (.slice A m c) (cntL numsG L l i) ∧ Below lo w wr) (fun _ s16 _ => n - (intOf s16).toNat)
 case atStart => exact ⟨0, n0 + 1, c5, A5, by go_num, by omega, rfl, by rw [cntL_zero, List.length_append, HN0.out]; rfl, by have := HBD.out; have := HN0.out; omega, by rw [cntL_zero, ← HN.out]; exact O5.out, BB5.out⟩
 case round =>
  obtain ⟨i, m, c, A, rfl, hi, rfl, hm, hmb, ho, hb⟩ := hrel
  have HO := Lib.hid ho
  have BW := Lib.hid hb
  have HM := Lib.hid hm
  clear ho hb hm O5 B5 BB5 O1_ I1 HO0
  by_cases hlt : i < n
  ·have hlt' : (i : Int) < n := by omega
   have hir : i < l.length := by rw [← HN.out]; exact hlt
   obtain ⟨bk, off, rfl, hbk, hc0, hc1, hc2⟩ := ((HA.out.below sigR BW.out).more sigR (Nat.le_trans HLO.out BW.out.size)).at hir
   obtain ⟨a, b, c_, hx⟩ : ∃ a b c, l[i] = (a, b, c) := ⟨_, _, _, rfl⟩
   have HX := Lib.hid hx
   rw [hx] at hc0 hc1 hc2
   have hg0 : wr.cell? ⟨bk, off + i * 3, none⟩ = some (.int .i64 a) := hc0
   have hg1 : wr.cell? ⟨bk, off + i * 3 + 1, none⟩ = some (.int .i64 b) := hc1
   have hg2 : wr.cell? ⟨bk, off + i * 3 + 2, none⟩ = some (.int .i64 c_) := hc2
   clear hc0 hc1 hc2 hx hbk
   obtain ⟨q1, hq⟩ : ∃ q_, q_ = wr.alloc (.cells #[.int .i64 a, .int .i64 b, .int .i64 c_] 59) := ⟨_, rfl⟩
   have x1 := heap_alloc_self wr (.cells #[.int .i64 a, .int .i64 b, .int .i64 c_] 59)
   have b1 := below_new wr (.cells #[.int .i64 a, .int .i64 b, .int .i64 c_] 59)
   rw [← hq] at x1 b1
   go_upto_region 5 with fail
   rw [← hq]
   have X1 := Lib.hid x1
   have B1 := Lib.hid (BW.out.trans (b1.mono (Nat.le_trans HLO.out BW.out.size)))
   generalize wr.heap.size = p1 at X1 ⊢
   clear hq hg0 hg1 hg2
   have O1 := Lib.hid (HO.out.below intR b1)
   clear x1 b1
   obtain ⟨k0, k1, k2⟩ := cell3_of X1.out
   go_wp2_with fail
   refine (psig_any a b c_ q1).mono ?_
   rintro e w2 ⟨A2, n2, c2, rfl, hn2, ho2, b2⟩
   have O2 := Lib.hid (O1.out.below intR b2)
   have E2 := Lib.hid (ho2.in_ intR_cells)
   have B2 := Lib.hid (B1.out.trans (b2.mono (Nat.le_trans HLO.out B1.out.size)))
   have NX := Lib.hid (cntL_succ (f := numsG) (L := L) hir)
   have LX := Lib.hid (cntL_len numsG L l (i + 1))
   rw [HX.out] at NX
   have HMN : Hid (m + n2 = (cntL numsG L l (i + 1)).length) := Lib.hid (by rw [← NX.out, List.length_append, ← HM.out, hn2]; try rfl)
   have HMN2 : Hid (m + n2 ≤ 10000) := Lib.hid (by rw [HMN.out]; exact Nat.le_trans LX.out HBD.out)
   have N2 := Lib.hid hn2
   clear ho2 b2 hn2
   go_wp2_with ((with_reducible show wpList _ _ _ (⟨some 24, _, _, _, _, _⟩ :: _) _ _); refine wpList_append_ints rfl (.tmp 20) (.tmp 23) rfl (lo := lo) rfl O2.out HM.out rfl E2.out (m + n2) (by rw [← N2.out]) (by have := HMN2.out; omega) (Nat.le_trans HLO.out B2.out.size) ?_; intro A5 c5 w5 ho5 hb5 _; have O5 := Lib.hid ho5; have B5 := Lib.hid hb5; clear ho5 hb5)
   go_roundw
   case measure => simp [intOf]; omega
   case rel => exact ⟨i + 1, m + n2, c5, A5, by go_num, by omega, rfl, HMN.out, HMN2.out, by rw [← NX.out]; exact O5.out, B2.out.trans B5.out⟩
  ·obtain rfl : n = i := by omega
   have hlt' : ¬ (n : Int) < n := by omega
   have HE : Hid (cntL numsG L l n = Lr) := Lib.hid (by rw [cntL_all HN.out]; exact HLR.out)
   go_wp2_with fail
   go_ret
   exact ⟨_, _, _, rfl, by rw [HM.out, HE.out], by rw [← HE.out]; exact HO.out, BW.out⟩
set_option maxHeartbeats 4000000 in
theorem pcount_section (A0 : Option Addr) (n0 c0 lo : Nat) (L : List Int) (v : Value) (l : List Sec) (w : World) (hO : IntsOwn w lo (.slice A0 n0 c0) L) (hn0 : n0 = L.length) (h : SectsIn w lo v l) (hlo : lo ≤ w.heap.size) (hbd : L.length + 1 + (l.flatMap numsS).length ≤ 10000) (hll : l.length ≤ 10000) (Lr : List Int) (hLr : L ++ (l.length : Int) :: l.flatMap numsS = Lr) :
  Calls Tryz.prog 53 #[.slice A0 n0 c0, v, .func (.func 54) #[] #[]] w fun e w' => ∃ A n c, e = .returned (.slice A n c) ∧ n = (Lr).length ∧ IntsOwn w' lo (.slice A n c) (Lr) ∧ Below lo w w' := by
 have HLR := Lib.hid hLr
 clear hLr
 have HO0 := Lib.hid hO
 have HN0 := Lib.hid hn0
 have HLO := Lib.hid hlo
 have HBD := Lib.hid hbd
 have H_ := Lib.hid h
 obtain ⟨A, c, rfl, hcl, hcm⟩ := h.slice
 obtain ⟨n, hn⟩ : ∃ n, n = l.length := ⟨_, rfl⟩
 have HN := Lib.hid hn
 have HA : Hid (SectsIn w lo (.slice A n c) l) := Lib.hid (by rw [hn]; exact H_.out)
 have hn4 : n ≤ 10000 := by rw [hn]; exact hll
 have hbn : n0 ≤ 10000 := by rw [hn0]; omega
 have HLL := Lib.hid hn4
 rw [← hn]
 have I1 := Lib.hid (ints_alloc w [(n : Int)] (by simp))
 have O1_ := Lib.hid (hO.below intR (below_new w (.cells (([(n : Int)] : List Int).map fun z => Value.int .i64 z).toArray 3)))
 clear hn hO hn0 hlo hbd hll H_ h hcl hcm
 go_enter Tryz.func53, Tryz.ntmps53
 go_wp2_with ((with_reducible show wpList _ _ _ (⟨some 13, _, _, _, _, _⟩ :: _) _ _); refine wpList_append_ints rfl (.tmp 9) (.tmp 12) rfl (lo := lo) rfl O1_.out HN0.out rfl I1.out (n0 + 1) rfl (by omega) (by have := HLO.out; simp; omega) ?_; intro A5 c5 w5 ho5 hb5 _; have O5 := Lib.hid ho5; have B5 := Lib.hid hb5; clear ho5 hb5)
 have BB5 : Hid (Below lo w w5) := Lib.hid (((below_new w _).mono HLO.out).trans B5.out)
 go_loopw [0, 16] (fun s0 s16 wr => ∃ (i m c : Nat) (A : Option Addr), s16 = .int .i64 i ∧ i ≤ n ∧ s0 = .slice A m c ∧ m = (cntL numsS L l i).length ∧ m ≤ 10000 ∧ IntsOwn wr lo (.slice A m c) (cntL numsS L l i) ∧ Below lo w wr) (fun _ s16 _ => n - (intOf s16).toNat)
 case atStart => exact ⟨0, n0 + 1, c5, A5, by go_num, by omega, rfl, by rw [cntL_zero, List.length_append, HN0.out]; rfl, by have := HBD.out; have := HN0.out; omega, by rw [cntL_zero, ← HN.out]; exact O5.out, BB5.out⟩
 case round =>
  obtain ⟨i, m, c, A, rfl, hi, rfl, hm, hmb, ho, hb⟩ := hrel
  have HO := Lib.hid ho
  have BW := Lib.hid hb
  have HM := Lib.hid hm
  clear ho hb hm O5 B5 BB5 O1_ I1 HO0
  by_cases hlt : i < n
  ·have hlt' : (i : Int) < n := by omega
   have hir : i < l.length := by rw [← HN.out]; exact hlt
   obtain ⟨bk, off, rfl, hbk, hc0, hc1, u, hc2, hu⟩ := ((HA.out.below secR_ BW.out).more secR_ (Nat.le_trans HLO.out BW.out.size)).at hir
   obtain ⟨a, b, es, hx⟩ : ∃ a b c, l[i] = (a, b, c) := ⟨_, _, _, rfl⟩
   have HX := Lib.hid hx
   rw [hx] at hc0 hc1 hu
   dsimp only at hu
   obtain ⟨U, uc, rfl, -, -⟩ := hu.slice
   obtain ⟨un, hun⟩ : ∃ n, n = es.length := ⟨_, rfl⟩
   have HV : Hid (SecV wr wr.heap.size (.agg #[.int .i64 a, .int .i64 b, .slice U un uc]) (a, b, es)) := Lib.hid ⟨_, rfl, by rw [hun]; exact hu⟩
   rw [← hun] at hc2
   have HES : Hid (es.length ≤ 5000) := Lib.hid (by
    have h1 := cntL_len numsS L l (i + 1)
    rw [← cntL_succ hir, hx, List.length_append, numsS_len] at h1
    have := HBD.out
    dsimp only at h1
    omega)
   clear hun hu
   have hg0 : wr.cell? ⟨bk, off + i * 3, none⟩ = some (.int .i64 a) := hc0
   have hg1 : wr.cell? ⟨bk, off + i * 3 + 1, none⟩ = some (.int .i64 b) := hc1
   have hg2 : wr.cell? ⟨bk, off + i * 3 + 2, none⟩ = some (.slice U un uc) := hc2
   clear hc0 hc1 hc2 hx hbk
   obtain ⟨q1, hq⟩ : ∃ q_, q_ = wr.alloc (.cells #[.int .i64 a, .int .i64 b, .slice U un uc] 63) := ⟨_, rfl⟩
   have x1 := heap_alloc_self wr (.cells #[.int .i64 a, .int .i64 b, .slice U un uc] 63)
   have b1 := below_new wr (.cells #[.int .i64 a, .int .i64 b, .slice U un uc] 63)
   rw [← hq] at x1 b1
   go_upto_region 5 with fail
   rw [← hq]
   have X1 := Lib.hid x1
   have B1 := Lib.hid (BW.out.trans (b1.mono (Nat.le_trans HLO.out BW.out.size)))
   generalize wr.heap.size = p1 at X1 ⊢
   clear hq hg0 hg1 hg2
   have O1 := Lib.hid (HO.out.below intR b1)
   have HV1 := Lib.hid ((HV.out.below b1).more b1.size)
   clear x1 b1
   obtain ⟨k0, k1, k2⟩ := cell3_of X1.out
   go_wp2_with fail
   refine (psecnums_any _ (a, b, es) q1 HV1.out HES.out).mono ?_
   rintro e w2 ⟨A2, n2, c2, rfl, hn2, ho2, b2⟩
   have O2 := Lib.hid (O1.out.below intR b2)
   have E2 := Lib.hid (ho2.in_ intR_cells)
   have B2 := Lib.hid (B1.out.trans (b2.mono (Nat.le_trans HLO.out B1.out.size)))
   have NX := Lib.hid (cntL_succ (f := numsS) (L := L) hir)
   have LX := Lib.hid (cntL_len numsS L l (i + 1))
   rw [HX.out] at NX
   have HMN : Hid (m + n2 = (cntL numsS L l (i + 1)).length) := Lib.hid (by rw [← NX.out, List.length_append, ← HM.out, hn2]; try rfl)
   have HMN2 : Hid (m + n2 ≤ 10000) := Lib.hid (by rw [HMN.out]; exact Nat.le_trans LX.out HBD.out)
   have N2 := Lib.hid hn2
   clear ho2 b2 hn2
   go_wp2_with ((with_reducible show wpList _ _ _ (⟨some 24, _, _, _, _, _⟩ :: _) _ _); refine wpList_append_ints rfl (.tmp 20) (.tmp 23) rfl (lo := lo) rfl O2.out HM.out rfl E2.out (m + n2) (by rw [← N2.out]) (by have := HMN2.out; omega) (Nat.le_trans HLO.out B2.out.size) ?_; intro A5 c5 w5 ho5 hb5 _; have O5 := Lib.hid ho5; have B5 := Lib.hid hb5; clear ho5 hb5)
   go_roundw
   case measure => simp [intOf]; omega
   case rel => exact ⟨i + 1, m + n2, c5, A5, by go_num, by omega, rfl, HMN.out, HMN2.out, by rw [← NX.out]; exact O5.out, B2.out.trans B5.out⟩
  ·obtain rfl : n = i := by omega
   have hlt' : ¬ (n : Int) < n := by omega
   have HE : Hid (cntL numsS L l n = Lr) := Lib.hid (by rw [cntL_all HN.out]; exact HLR.out)
   go_wp2_with fail
   go_ret
   exact ⟨_, _, _, rfl, by rw [HM.out, HE.out], by rw [← HE.out]; exact HO.out, BW.out⟩
end Go.Proofs.YteloiajocjahmaaGreatDoor
