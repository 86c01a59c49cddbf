/-
 The document's own answer: what a block makes of eight words.
 Conditions: none.
-/
import Derived.Test.YteloiajocjahmaaGreatDoorSGShaR
import Derived.Deep.RegionWith
set_option linter.unusedVariables false
set_option linter.unusedSimpArgs false
set_option maxRecDepth 100000
namespace Go.Proofs.YteloiajocjahmaaGreatDoor
open Go.RowKit

set_option maxRecDepth 100000 in
theorem constants_ref (w : World) : Calls Tryz.prog 103 #[] w fun e w' => e = .returned (.slice (some ⟨w.heap.size, 0, none⟩) 64 64) ∧ w.alloc (.cells (row32 kk) 123) = w' := by
 go_enter Tryz.func103, Tryz.ntmps103
 go_wp2
 go_ret
 exact ⟨rfl, rfl⟩
theorem addL_comm (h g : List Nat) : addL h g = addL g h := by
 unfold addL
 rw [List.zipWith_comm]
 congr 1
 funext x y
 rw [Nat.add_comm]

/-- Where all stands, at the great loop. -/
def BeAt (w : World) (hh W : List Nat) (bk bw : Nat) (v : World) : Prop :=
 v.heap[w.heap.size]? = some (.cells (row32 hh) 124 (0, 0)) ∧ v.heap[w.heap.size + 1]? = some (.cells (Array.replicate 8 (.int .u32 0)) 124 (0, 0)) ∧
 (∀ (j x : Nat), kk[j]? = some x → v.cell? ⟨bk, j, none⟩ = some (.int .u32 (x : Int))) ∧ (∀ (j x : Nat), W[j]? = some x → v.cell? ⟨bw, j, none⟩ = some (.int .u32 (x : Int))) ∧ (bk < v.heap.size ∧ bw < v.heap.size) ∧ Below w.heap.size w v
theorem BeAt.below {w v v' : World} {hh W : List Nat} {bk bw : Nat} (a : BeAt w hh W bk bw v) (b : Below v.heap.size v v') : BeAt w hh W bk bw v' := by
 obtain ⟨h1, h2, h3, h4, ⟨h5, h6⟩, h7⟩ := a
 exact ⟨(b.block _ (heap_lt h1)).trans h1, (b.block _ (heap_lt h2)).trans h2, fun j x hj => (b.cell (p := ⟨bk, j, none⟩) h5).trans (h3 j x hj), fun j x hj => (b.cell (p := ⟨bw, j, none⟩) h6).trans (h4 j x hj),
  ⟨Nat.lt_of_lt_of_le h5 b.size, Nat.lt_of_lt_of_le h6 b.size⟩, h7.trans (b.mono h7.size)⟩
theorem BeAt.alloc {w v : World} {hh W : List Nat} {bk bw : Nat} (a : BeAt w hh W bk bw v) (o : Obj) : BeAt w hh W bk bw (v.alloc o) := a.below (below_new v o)
theorem BeAt.drew {w v : World} {hh W : List Nat} {bk bw : Nat} (a : BeAt w hh W bk bw v) : BeAt w hh W bk bw v.drew := ⟨a.1, a.2.1, a.2.2.1, a.2.2.2.1, a.2.2.2.2.1, a.2.2.2.2.2.drew⟩
theorem BeAt.drewN {w v : World} {hh W : List Nat} {bk bw : Nat} (a : BeAt w hh W bk bw v) (n : Nat) : BeAt w hh W bk bw (v.drewN n) := ⟨a.1, a.2.1, a.2.2.1, a.2.2.2.1, a.2.2.2.2.1, below_drewN a.2.2.2.2.2 n⟩

set_option maxRecDepth 100000 in
set_option maxHeartbeats 4000000 in
theorem behind_eight (h0 h1 h2 h3 h4 h5 h6 h7 : Nat) (hok : W32 8 [h0, h1, h2, h3, h4, h5, h6, h7]) (bb at_ n cap : Nat) (B : List UInt8) (hB : B.length = 64) (w : World) (hblk : bb < w.heap.size) (hc : ∀ (j : Nat) (h : j < B.length), w.cell? ⟨bb, at_ + j, none⟩ = some (.int .u8 (B[j].toNat : Int))) (ha : at_ + 64 ≤ n) (hn : n ≤ 10000) :
  Calls Tryz.prog 80 #[.agg (row32 [h0, h1, h2, h3, h4, h5, h6, h7]), .slice (some ⟨bb, 0, none⟩) n cap, .int .i64 at_] w fun e w' => e = .returned (.agg (row32 (blockL [h0, h1, h2, h3, h4, h5, h6, h7] B))) ∧ Below w.heap.size w w' := by
 obtain ⟨W, hW⟩ : ∃ W, W = sched (words16 B) 48 := ⟨_, rfl⟩
 obtain ⟨hh, hhe⟩ : ∃ hh, hh = [h0, h1, h2, h3, h4, h5, h6, h7] := ⟨_, rfl⟩
 have hblkL : blockL [h0, h1, h2, h3, h4, h5, h6, h7] B = addL hh (rounds W hh 64) := by rw [hW, hhe]; rfl
 rw [hblkL]
 have hgetc : ∀ (j x : Nat), hh[j]? = some x → (row32 hh)[j]? = some (.int .u32 (x : Int)) := fun j x h => row32_at h
 have g0 := hgetc 0 h0 (by rw [hhe]; rfl)
 have g1 := hgetc 1 h1 (by rw [hhe]; rfl)
 have g2 := hgetc 2 h2 (by rw [hhe]; rfl)
 have g3 := hgetc 3 h3 (by rw [hhe]; rfl)
 have g4 := hgetc 4 h4 (by rw [hhe]; rfl)
 have g5 := hgetc 5 h5 (by rw [hhe]; rfl)
 have g6 := hgetc 6 h6 (by rw [hhe]; rfl)
 have g7 := hgetc 7 h7 (by rw [hhe]; rfl)
 rw [← hhe] at hok ⊢
 have OKH := Lib.hid hok
 have WOK : Hid (W32 64 W) := Lib.hid (by rw [hW]; exact sched_ok (words16_ok B) 48)
 have HHE := Lib.hid hhe
 have HW := Lib.hid hW
 have HB := Lib.hid hB
 have HC := Lib.hid hc
 have HBK := Lib.hid hblk
 have G0 := Lib.hid g0
 have G1 := Lib.hid g1
 have G2 := Lib.hid g2
 have G3 := Lib.hid g3
 have G4 := Lib.hid g4
 have G5 := Lib.hid g5
 have G6 := Lib.hid g6
 have G7 := Lib.hid g7
 have hz8 := zero8.1
 have hf0 : ((w.alloc (.cells (row32 hh) 124)).alloc (.cells (Array.replicate 8 (.int .u32 0)) 124)).heap[w.heap.size]? = some (.cells (row32 hh) 124 (0, 0)) := by
  rw [heap_alloc_lt _ _ (by rw [heap_alloc_size]; omega), heap_alloc_self]
 have hf1 : ((w.alloc (.cells (row32 hh) 124)).alloc (.cells (Array.replicate 8 (.int .u32 0)) 124)).heap[w.heap.size + 1]? = some (.cells (Array.replicate 8 (.int .u32 0)) 124 (0, 0)) := by
  have := heap_alloc_self (w.alloc (.cells (row32 hh) 124)) (.cells (Array.replicate 8 (.int .u32 0)) 124)
  rwa [heap_alloc_size] at this
 have hfb : Below w.heap.size w ((w.alloc (.cells (row32 hh) 124)).alloc (.cells (Array.replicate 8 (.int .u32 0)) 124)) :=
  ((Below.refl _ _).alloc (Nat.le_refl _) _).alloc (by simp) _
 have F0 := Lib.hid hf0
 have F1 := Lib.hid hf1
 have FB := Lib.hid hfb
 clear hgetc g0 g1 g2 g3 g4 g5 g6 g7 hok hhe hW hB hc hblk hf0 hf1 hfb hblkL
 go_enter Tryz.func80, Tryz.ntmps80
 go_wp2_with fail
 generalize (w.alloc (.cells (row32 hh) 124)).alloc (.cells (Array.replicate 8 (.int .u32 0)) 124) = u at F0 F1 FB ⊢
 refine (constants_ref _).mono ?_
 rintro e w1 ⟨rfl, rfl⟩
 have hk1 : ∀ (j x : Nat), kk[j]? = some x → (u.alloc (.cells (row32 kk) 123)).cell? ⟨u.heap.size, j, none⟩ = some (.int .u32 (x : Int)) := fun j x hj => by
  rw [World.cell?_alloc_new]; exact row32_at hj
 have hcb : Below w.heap.size w (u.alloc (.cells (row32 kk) 123)) := FB.out.alloc FB.out.size _
 have hq0 := (heap_alloc_lt u (.cells (row32 kk) 123) (heap_lt F0.out)).trans F0.out
 have hq1 := (heap_alloc_lt u (.cells (row32 kk) 123) (heap_lt F1.out)).trans F1.out
 have hks : u.heap.size < (u.alloc (.cells (row32 kk) 123)).heap.size := by simp
 obtain ⟨bk, hbk⟩ : ∃ bk, bk = u.heap.size := ⟨_, rfl⟩
 rw [← hbk] at hk1 hks ⊢
 generalize u.alloc (.cells (row32 kk) 123) = u1 at hk1 hcb hq0 hq1 hks ⊢
 have K1 := Lib.hid hk1
 have K2 := Lib.hid hcb
 have K3 := Lib.hid hq0
 have K4 := Lib.hid hq1
 have K5 := Lib.hid hks
 clear hk1 hcb hq0 hq1 hks hbk F0 F1 FB
 clear u
 go_wp2_with fail
 refine (words_ref bb at_ n cap B HB.out _ (Nat.lt_of_lt_of_le HBK.out K2.out.size) (fun j h => (K2.out.cell (p := ⟨bb, at_ + j, none⟩) HBK.out).trans (HC.out j h)) ha hn).mono ?_
 rintro e w2 ⟨⟨bw, cw, rfl, hbw, hww⟩, b⟩
 rw [← HW.out] at hww
 have hat : BeAt w hh W bk bw w2 := by
  refine ⟨(b.block _ (heap_lt K3.out)).trans K3.out, (b.block _ (heap_lt K4.out)).trans K4.out, fun j x hj => (b.cell (p := ⟨bk, j, none⟩) K5.out).trans (K1.out j x hj), hww, ⟨Nat.lt_of_lt_of_le K5.out b.size, ?_⟩, K2.out.trans (b.mono K2.out.size)⟩
  exact cell_lt (hww 0 _ (List.getElem?_eq_getElem (show 0 < W.length by rw [WOK.out.1]; omega)))
 have AT0 := Lib.hid hat
 clear hat hww hbw b K1 K2 K3 K4 K5 HW HC HBK
 clear u1
 have cell : ∀ (j : Nat), w2.cell? ⟨w.heap.size, j, none⟩ = (row32 hh)[j]? := fun j => cell_of_row _ _ _ _ _ _ AT0.out.1
 have c0 := (cell 0).trans G0.out
 have c1 := (cell 1).trans G1.out
 have c2 := (cell 2).trans G2.out
 have c3 := (cell 3).trans G3.out
 have c4 := (cell 4).trans G4.out
 have c5 := (cell 5).trans G5.out
 have c6 := (cell 6).trans G6.out
 have c7 := (cell 7).trans G7.out
 clear cell G0 G1 G2 G3 G4 G5 G6 G7
 go_wp2_with fail
 go_quiet (fail)
 clear c0 c1 c2 c3 c4 c5 c6 c7
 have hat := AT0.out.drewN nq
 generalize w2.drewN nq = q at hat ⊢
 have AT1 := Lib.hid hat
 clear hat AT0
 clear w2
 go_wp2_with fail
 go_loopw [9, 10, 11, 12, 13, 14, 15, 16, 17] (fun s9 s10 s11 s12 s13 s14 s15 s16 s17 wr => ∃ (t a b c d e f g i : Nat), t ≤ 64 ∧ rounds W hh t = [a, b, c, d, e, f, g, i] ∧ s9 = .int .u32 (a : Int) ∧ s10 = .int .u32 (b : Int) ∧ s11 = .int .u32 (c : Int) ∧ s12 = .int .u32 (d : Int) ∧ s13 = .int .u32 (e : Int) ∧ s14 = .int .u32 (f : Int) ∧ s15 = .int .u32 (g : Int) ∧ s16 = .int .u32 (i : Int) ∧ s17 = .int .i64 (t : Int) ∧ BeAt w hh W bk bw wr) (fun _ _ _ _ _ _ _ _ s17 _ => 64 - (intOf s17).toNat)
 case atStart => exact ⟨0, h0, h1, h2, h3, h4, h5, h6, h7, by omega, HHE.out, rfl, rfl, rfl, rfl, rfl, rfl, rfl, rfl, rfl, AT1.out⟩
 case round =>
  obtain ⟨t, a, b, c, d, e, f, g, i, ht, hr, rfl, rfl, rfl, rfl, rfl, rfl, rfl, rfl, rfl, hat⟩ := hrel
  clear AT1
  have AT := Lib.hid hat
  have HR := Lib.hid hr
  have hrok := rounds_ok (ws := W) OKH.out t
  rw [hr] at hrok
  have la := hrok.2 a (by simp)
  have lb := hrok.2 b (by simp)
  have lc := hrok.2 c (by simp)
  have ld := hrok.2 d (by simp)
  have le := hrok.2 e (by simp)
  have lf := hrok.2 f (by simp)
  have lg := hrok.2 g (by simp)
  have li := hrok.2 i (by simp)
  clear hat hr hrok
  by_cases hlt : t < 64
  ·have hlt' : (t : Int) < 64 := by omega
   go_wp2_with fail
   refine wp_region_still_tail 21 (by kernel_rfl) (by kernel_rfl) ?_
   change wpStill _ _ (World.drew wr) (fun a' => wpList _ _ _ _ a' (World.drew wr)) _ _
   have hd := AT.out.drew
   generalize World.drew wr = u at hd ⊢
   have HD := Lib.hid hd
   clear hd AT
   clear wr
   have hck := HD.out.2.2.1 t _ (kk_get hlt)
   have hcw := HD.out.2.2.2.1 t (W.getD t 0) (by rw [List.getD_eq_getElem?_getD, List.getElem?_eq_getElem (by rw [WOK.out.1]; exact hlt)]; rfl)
   have lk := kk_ok.getD t
   have lw := WOK.out.getD t
   have hst : rounds W hh (t + 1) = stepL ((kk.getD t 0 + W.getD t 0) % 4294967296) [a, b, c, d, e, f, g, i] := by rw [rounds, HR.out]
   have l6 := rotr_lt (n := 6) (by omega) le
   have l11 := rotr_lt (n := 11) (by omega) le
   have l25 := rotr_lt (n := 25) (by omega) le
   have he3 : bits .xor .u32 (bits .xor .u32 (rotr 6 e : Nat) (rotr 11 e : Nat)) (rotr 25 e : Nat) = (rot3 6 11 25 e : Nat) := by
    rw [u32_xor_nat _ _ l6 l11, u32_xor_nat _ _ (xor_w l6 l11) l25]; rfl
   have le3 := rot3_lt (p := 6) (q := 11) (r := 25) (by omega) (by omega) (by omega) le
   have lch := ch_lt le lf lg
   have HST := Lib.hid hst
   clear hst l6 l11 l25 HR
   generalize kk.getD t 0 = k at *
   generalize W.getD t 0 = x at *
   simp only [List.take_succ_cons, List.take_zero, List.drop_succ_cons, List.drop_zero]
   still_step
   still_step
   still_call (right_any _ 6 _ le (by omega) (by rfl) _)
   still_step
   still_call (right_any _ 11 _ le (by omega) (by rfl) _)
   still_step
   still_step
   still_call (right_any _ 25 _ le (by omega) (by rfl) _)
   still_step
   still_step
   still_step
   still_step
   still_call (choose_any _ _ _ le lf lg _)
   still_step
   still_step
   still_step
   still_step
   still_step
   still_step
   still_step
   still_step
   refine wpStill_nil ?_
   clear hck hcw he3
   go_wp2_with fail
   have hclS1 : (#[.int .u32 ((i : Nat) : Int), .int .u32 ((rot3 6 11 25 e : Nat) : Int), .int .u32 ((ch e f g : Nat) : Int), .int .u32 ((k : Nat) : Int), .int .u32 ((x : Nat) : Int)] : Array Value) = row32 [i, rot3 6 11 25 e, ch e f g, k, x] := by simp only [row32, List.map_cons, List.map_nil, w32]
   obtain ⟨S1, hS1⟩ : ∃ S1, S1 = sumM [i, rot3 6 11 25 e, ch e f g, k, x] := ⟨_, rfl⟩
   have lS1 : S1 < 4294967296 := by rw [hS1]; exact sumM_lt _
   have HS1 : Hid (S1 = (i + rot3 6 11 25 e + ch e f g + k + x) % 4294967296) := Lib.hid (by rw [hS1, sumM5])
   refine (sum_words _ [i, rot3 6 11 25 e, ch e f g, k, x] (by simp) (by simp [li, le3, lch, lk, lw]) _ _ (by rw [← hclS1]; exact heap_alloc_self _ _) _ _ rfl).mono ?_
   rintro e' w' ⟨rfl, rfl⟩
   rw [← hS1]
   have hatS1 := HD.out.alloc (.cells #[.int .u32 ((i : Nat) : Int), .int .u32 ((rot3 6 11 25 e : Nat) : Int), .int .u32 ((ch e f g : Nat) : Int), .int .u32 ((k : Nat) : Int), .int .u32 ((x : Nat) : Int)] 123)
   generalize u.alloc (.cells #[.int .u32 ((i : Nat) : Int), .int .u32 ((rot3 6 11 25 e : Nat) : Int), .int .u32 ((ch e f g : Nat) : Int), .int .u32 ((k : Nat) : Int), .int .u32 ((x : Nat) : Int)] 123) = u1 at hatS1 ⊢
   have D1 := Lib.hid hatS1
   clear hS1 hatS1 hclS1 HD
   have m2 := rotr_lt (n := 2) (by omega) la
   have m13 := rotr_lt (n := 13) (by omega) la
   have m22 := rotr_lt (n := 22) (by omega) la
   have ha3 : bits .xor .u32 (bits .xor .u32 (rotr 2 a : Nat) (rotr 13 a : Nat)) (rotr 22 a : Nat) = (rot3 2 13 22 a : Nat) := by
    rw [u32_xor_nat _ _ m2 m13, u32_xor_nat _ _ (xor_w m2 m13) m22]; rfl
   have la3 := rot3_lt (p := 2) (q := 13) (r := 22) (by omega) (by omega) (by omega) la
   have lmj := maj_lt la lb lc
   clear m2 m13 m22
   go_wp2_with fail
   refine (right_any _ 2 _ la (by omega) (by rfl) _).mono ?_
   rintro e' w' ⟨rfl, hw'⟩
   obtain rfl := hw'.symm
   go_wp2_with fail
   refine (right_any _ 13 _ la (by omega) (by rfl) _).mono ?_
   rintro e' w' ⟨rfl, hw'⟩
   obtain rfl := hw'.symm
   go_wp2_with fail
   refine (right_any _ 22 _ la (by omega) (by rfl) _).mono ?_
   rintro e' w' ⟨rfl, hw'⟩
   obtain rfl := hw'.symm
   go_wp2_with fail
   refine (most_any _ _ _ la lb lc _).mono ?_
   rintro e' w' ⟨rfl, hw'⟩
   obtain rfl := hw'.symm
   go_wp2_with fail
   have hclU1 : (#[.int .u32 ((rot3 2 13 22 a : Nat) : Int), .int .u32 ((maj a b c : Nat) : Int)] : Array Value) = row32 [rot3 2 13 22 a, maj a b c] := by simp only [row32, List.map_cons, List.map_nil, w32]
   obtain ⟨U1, hU1⟩ : ∃ U1, U1 = sumM [rot3 2 13 22 a, maj a b c] := ⟨_, rfl⟩
   have lU1 : U1 < 4294967296 := by rw [hU1]; exact sumM_lt _
   have HU1 : Hid (U1 = (rot3 2 13 22 a + maj a b c) % 4294967296) := Lib.hid (by rw [hU1, sumM2])
   refine (sum_words _ [rot3 2 13 22 a, maj a b c] (by simp) (by simp [la3, lmj]) _ _ (by rw [← hclU1]; exact heap_alloc_self _ _) _ _ rfl).mono ?_
   rintro e' w' ⟨rfl, rfl⟩
   rw [← hU1]
   have hatU1 := D1.out.alloc (.cells #[.int .u32 ((rot3 2 13 22 a : Nat) : Int), .int .u32 ((maj a b c : Nat) : Int)] 123)
   generalize u1.alloc (.cells #[.int .u32 ((rot3 2 13 22 a : Nat) : Int), .int .u32 ((maj a b c : Nat) : Int)] 123) = u2 at hatU1 ⊢
   have D2 := Lib.hid hatU1
   clear hU1 hatU1 hclU1 D1
   clear ha3
   go_wp2_with fail
   have hclE1 : (#[.int .u32 ((d : Nat) : Int), .int .u32 ((S1 : Nat) : Int)] : Array Value) = row32 [d, S1] := by simp only [row32, List.map_cons, List.map_nil, w32]
   obtain ⟨E1, hE1⟩ : ∃ E1, E1 = sumM [d, S1] := ⟨_, rfl⟩
   have lE1 : E1 < 4294967296 := by rw [hE1]; exact sumM_lt _
   have HE1 : Hid (E1 = (d + S1) % 4294967296) := Lib.hid (by rw [hE1, sumM2])
   refine (sum_words _ [d, S1] (by simp) (by simp [ld, lS1]) _ _ (by rw [← hclE1]; exact heap_alloc_self _ _) _ _ rfl).mono ?_
   rintro e' w' ⟨rfl, rfl⟩
   rw [← hE1]
   have hatE1 := D2.out.alloc (.cells #[.int .u32 ((d : Nat) : Int), .int .u32 ((S1 : Nat) : Int)] 123)
   generalize u2.alloc (.cells #[.int .u32 ((d : Nat) : Int), .int .u32 ((S1 : Nat) : Int)] 123) = u3 at hatE1 ⊢
   have D3 := Lib.hid hatE1
   clear hE1 hatE1 hclE1 D2
   go_wp2_with fail
   have hclA1 : (#[.int .u32 ((S1 : Nat) : Int), .int .u32 ((U1 : Nat) : Int)] : Array Value) = row32 [S1, U1] := by simp only [row32, List.map_cons, List.map_nil, w32]
   obtain ⟨A1, hA1⟩ : ∃ A1, A1 = sumM [S1, U1] := ⟨_, rfl⟩
   have lA1 : A1 < 4294967296 := by rw [hA1]; exact sumM_lt _
   have HA1 : Hid (A1 = (S1 + U1) % 4294967296) := Lib.hid (by rw [hA1, sumM2])
   refine (sum_words _ [S1, U1] (by simp) (by simp [lS1, lU1]) _ _ (by rw [← hclA1]; exact heap_alloc_self _ _) _ _ rfl).mono ?_
   rintro e' w' ⟨rfl, rfl⟩
   rw [← hA1]
   have hatA1 := D3.out.alloc (.cells #[.int .u32 ((S1 : Nat) : Int), .int .u32 ((U1 : Nat) : Int)] 123)
   generalize u3.alloc (.cells #[.int .u32 ((S1 : Nat) : Int), .int .u32 ((U1 : Nat) : Int)] 123) = u4 at hatA1 ⊢
   have D4 := Lib.hid hatA1
   clear hA1 hatA1 hclA1 D3
   go_wp2_with fail
   go_roundw
   case measure => simp [intOf]; omega
   case rel =>
    have e1 := HS1.out
    have e2 := HU1.out
    have e3 := HE1.out
    have e4 := HA1.out
    refine ⟨t + 1, A1, a, b, c, E1, e, f, g, by omega, ?_, rfl, rfl, rfl, rfl, rfl, rfl, rfl, rfl, by go_num, D4.out⟩
    rw [HST.out]
    simp only [stepL]
    have hs : (i + rot3 6 11 25 e + ch e f g + (k + x) % 4294967296) % 4294967296 = S1 := by rw [e1]; omega
    rw [hs, ← e2, ← e3, ← e4]
  ·obtain rfl : t = 64 := by omega
   have hlt' : ¬ (64 : Int) < 64 := by omega
   obtain ⟨G, hG⟩ : ∃ G, G = rounds W hh 64 := ⟨_, rfl⟩
   have OKG : Hid (W32 8 G) := Lib.hid (by rw [hG]; exact rounds_ok OKH.out 64)
   have HGE := Lib.hid hG
   have HGL : Hid (G = [a, b, c, d, e, f, g, i]) := Lib.hid (by rw [hG, HR.out])
   have hset : ((((((((Array.replicate 8 (Value.int .u32 0)).setIfInBounds 0 (.int .u32 (a : Int))).setIfInBounds 1 (.int .u32 (b : Int))).setIfInBounds 2 (.int .u32 (c : Int))).setIfInBounds 3 (.int .u32 (d : Int))).setIfInBounds 4 (.int .u32 (e : Int))).setIfInBounds 5 (.int .u32 (f : Int))).setIfInBounds 6 (.int .u32 (g : Int))).setIfInBounds 7 (.int .u32 (i : Int)) = row32 G := by
    rw [set8, HGL.out]; simp only [row32, List.map_cons, List.map_nil, w32]
   have HSET := Lib.hid hset
   clear hG hset HR hlt la lb lc ld le lf lg li
   go_wp2_with (refine wpList_store_row rfl 124 _ _ rfl wr.heap.size rfl rfl (heap_alloc_self _ _) (by rw [HSET.out, row32_size, OKG.out.1]; exact zero8.2) (by rw [HSET.out, row32_size, OKG.out.1]; simp) (by rw [HSET.out]; exact row32_one _) ?_; rw [HSET.out, World.setRow_alloc_new])
   clear HSET HGL
   have hl0 := heap_alloc_self wr (.cells (row32 G) 124)
   have hat2 := AT.out.alloc (.cells (row32 G) 124)
   have hbl : Hid (w.heap.size + 1 < wr.heap.size) := Lib.hid (heap_lt AT.out.2.1)
   obtain ⟨bl, hble⟩ : ∃ bl, bl = wr.heap.size := ⟨_, rfl⟩
   rw [← hble] at hl0 hbl ⊢
   generalize wr.alloc (.cells (row32 G) 124) = q2 at hl0 hat2 ⊢
   have L0 := Lib.hid hl0
   have A2 := Lib.hid hat2
   clear hl0 hat2 AT hble
   go_loopw [21] (fun s21 wx => ∃ j : Nat, j ≤ 8 ∧ s21 = .int .i64 j ∧ wx.heap[bl]? = some (.cells (row32 (addP G hh j)) 124 (0, 0)) ∧ wx.heap[w.heap.size]? = some (.cells (row32 hh) 124 (0, 0)) ∧ wx.heap[w.heap.size + 1]? = some (.cells (Array.replicate 8 (.int .u32 0)) 124 (0, 0)) ∧ Below w.heap.size w wx) (fun s21 _ => 8 - (intOf s21).toNat)
   case atStart => exact ⟨0, by omega, rfl, by rw [addP_zero]; exact L0.out, A2.out.1, A2.out.2.1, A2.out.2.2.2.2.2⟩
   case round =>
    obtain ⟨j, hj, rfl, q0, q1, q2', q3⟩ := hrel
    clear L0 A2
    have Q0 := Lib.hid q0
    have Q1 := Lib.hid q1
    have Q2 := Lib.hid q2'
    have Q3 := Lib.hid q3
    clear q0 q1 q2' q3
    by_cases hlt : j < 8
    ·have hlt' : (j : Int) < 8 := by omega
     have hc1 : wr.drew.cell? ⟨bl, j, none⟩ = some (.int .u32 ((G.getD j 0 : Nat) : Int)) := row32_cell Q0.out (addP_get OKG.out.1 OKH.out.1 hlt)
     have hc2 : wr.drew.cell? ⟨w.heap.size, j, none⟩ = some (.int .u32 ((hh.getD j 0 : Nat) : Int)) := row32_cell Q1.out (by rw [List.getD_eq_getElem?_getD, List.getElem?_eq_getElem (by rw [OKH.out.1]; exact hlt)]; rfl)
     have lx := OKG.out.getD j
     have ly := OKH.out.getD j
     have hset := addP_set OKG.out.1 OKH.out.1 hlt
     rw [← sumM2] at hset
     have HSE := Lib.hid hset
     clear hset
     generalize G.getD j 0 = x at *
     generalize hh.getD j 0 = y at *
     have hnew : (wr.alloc (.cells #[.int .u32 (x : Int), .int .u32 (y : Int)] 123)).drew.heap[wr.heap.size]? = some (.cells (row32 [x, y]) 123 (0, 0)) :=
      (heap_alloc_self wr (.cells #[.int .u32 (x : Int), .int .u32 (y : Int)] 123)).trans (by simp only [row32, List.map_cons, List.map_nil, w32])
     have HN := Lib.hid hnew
     have hrow2 : (wr.alloc (.cells #[.int .u32 (x : Int), .int .u32 (y : Int)] 123)).heap[bl]? = some (.cells (row32 (addP G hh j)) 124 (0, 0)) := (heap_alloc_lt _ _ (heap_lt Q0.out)).trans Q0.out
     obtain ⟨z, hzz⟩ : ∃ z, (addP G hh j)[j]? = some z := ⟨_, addP_get OKG.out.1 OKH.out.1 hlt⟩
     have hc3 : (wr.alloc (.cells #[.int .u32 (x : Int), .int .u32 (y : Int)] 123)).cell? ⟨bl, j, none⟩ = some (.int .u32 (z : Int)) := row32_cell hrow2 hzz
     have hf3 : (wr.alloc (.cells #[.int .u32 (x : Int), .int .u32 (y : Int)] 123)).frozen? ⟨bl, j, none⟩ = false := frozen_of_row _ _ _ _ _ hrow2
     have HR2 := Lib.hid hrow2
     clear hnew hrow2 hzz
     go_wp2_with fail
     go_region_with (go_at_call 105; refine (sum_words _ [x, y] (by simp) (by simp [lx, ly]) _ _ HN.out _ _ rfl).mono ?_; rintro e' w' ⟨rfl, rfl⟩)
     all_goals
      go_wp2
      go_roundw
      case measure => simp [intOf]; omega
      case rel =>
       have hbl' := hbl.out
       refine ⟨j + 1, by omega, by go_num, ?_, ?_, ?_, ?_⟩
       ·show ((wr.alloc (.cells #[.int .u32 (x : Int), .int .u32 (y : Int)] 123)).setCell ⟨bl, j, none⟩ (.int .u32 (sumM [x, y] : Nat))).heap[bl]? = _
        rw [heap_setCell_same _ _ _ _ _ _ HR2.out, row32_set, HSE.out]
       ·show ((wr.alloc (.cells #[.int .u32 (x : Int), .int .u32 (y : Int)] 123)).setCell ⟨bl, j, none⟩ (.int .u32 (sumM [x, y] : Nat))).heap[w.heap.size]? = _
        rw [heap_setCell_other _ _ _ _ (show w.heap.size ≠ bl by omega), heap_alloc_lt _ _ (heap_lt Q1.out)]; exact Q1.out
       ·show ((wr.alloc (.cells #[.int .u32 (x : Int), .int .u32 (y : Int)] 123)).setCell ⟨bl, j, none⟩ (.int .u32 (sumM [x, y] : Nat))).heap[w.heap.size + 1]? = _
        rw [heap_setCell_other _ _ _ _ (show w.heap.size + 1 ≠ bl by omega), heap_alloc_lt _ _ (heap_lt Q2.out)]; exact Q2.out
       ·exact ((Q3.out.alloc Q3.out.size _).setCell (show w.heap.size ≤ bl by omega) _).drew
    ·obtain rfl : j = 8 := by omega
     have hlt' : ¬ (8 : Int) < 8 := by omega
     have hall : row32 (addP G hh 8) = row32 (addL hh G) := by rw [addP_all OKG.out.1 OKH.out.1, addL_comm]
     rw [hall] at Q0
     have hl8 := addL_length OKH.out.1 OKG.out.1
     have HL := Lib.hid hl8
     clear hall hl8 hlt
     go_wp2_with (first
      | refine wpList_load_row rfl 124 _ rfl bl rfl Q0.out Tryz.underlying124 (by rw [row32_size, HL.out]; exact zero8.2) ?_
      | refine wpList_store_row rfl 124 _ _ rfl (w.heap.size + 1) rfl rfl Q2.out (by rw [row32_size, HL.out]; exact zero8.2) (by rw [row32_size, HL.out]; simp) (row32_one _) ?_)
     refine bodyPost_ret (v := .agg (row32 (addL hh G))) ?_ rfl ⟨by rw [HGE.out], below_setRow Q3.out (by omega) _⟩
     exact results_cell_row rfl _ _ (w.heap.size + 1) _ _ (0, 0) _ rfl (setRow_heap _ _ _ _ _ _ Q2.out) Tryz.underlying124 rfl (by rw [row32_size, HL.out]; exact zero8.2)

theorem behind_ref (hh : List Nat) (hok : W32 8 hh) (bb at_ n cap : Nat) (B : List UInt8) (hB : B.length = 64) (w : World) (hblk : bb < w.heap.size) (hc : ∀ (j : Nat) (h : j < B.length), w.cell? ⟨bb, at_ + j, none⟩ = some (.int .u8 (B[j].toNat : Int))) (ha : at_ + 64 ≤ n) (hn : n ≤ 10000) :
  Calls Tryz.prog 80 #[.agg (row32 hh), .slice (some ⟨bb, 0, none⟩) n cap, .int .i64 at_] w fun e w' => e = .returned (.agg (row32 (blockL hh B))) ∧ Below w.heap.size w w' := by
 have hl := hok.1
 match hh, hl with
 | [h0, h1, h2, h3, h4, h5, h6, h7], _ => exact behind_eight h0 h1 h2 h3 h4 h5 h6 h7 hok bb at_ n cap B hB w hblk hc ha hn

theorem first_ref (w : World) : Calls Tryz.prog 79 #[] w fun e w' => e = .returned (.agg (row32 begin8)) ∧ Below w.heap.size w w' := by
 have hz8 := zero8.1
 have hset : ((((((((Array.replicate 8 (Value.int .u32 0)).setIfInBounds 0 (.int .u32 1779033703)).setIfInBounds 1 (.int .u32 3144134277)).setIfInBounds 2 (.int .u32 1013904242)).setIfInBounds 3 (.int .u32 2773480762)).setIfInBounds 4 (.int .u32 1359893119)).setIfInBounds 5 (.int .u32 2600822924)).setIfInBounds 6 (.int .u32 528734635)).setIfInBounds 7 (.int .u32 1541459225) = row32 begin8 := by
  rw [set8]; rfl
 have HS := Lib.hid hset
 have hh := heap_alloc_self w (.cells (Array.replicate 8 (.int .u32 0)) 124)
 have HH := Lib.hid hh
 clear hh hset
 go_enter Tryz.func79, Tryz.ntmps79
 go_wp2_with (refine wpList_store_row rfl 124 _ _ rfl w.heap.size rfl rfl HH.out (by rw [HS.out]; exact zero8.2) (by rw [HS.out]; rfl) (by rw [HS.out]; exact row32_one _) ?_; rw [HS.out])
 refine bodyPost_ret (v := .agg (row32 begin8)) ?_ rfl ⟨rfl, below_setRow ((Below.refl _ _).alloc (Nat.le_refl _) _) (Nat.le_refl _) _⟩
 exact results_cell_row rfl _ _ w.heap.size _ _ (0, 0) _ rfl (setRow_heap _ _ _ _ _ _ HH.out) Tryz.underlying124 rfl zero8.2

set_option maxHeartbeats 2000000 in
theorem filled_ref (v : Value) (xs : List UInt8) (hl : xs.length ≤ 5000) (w : World) (hx : Txt w w.heap.size v xs) :
  Calls Tryz.prog 78 #[v] w fun e w' => (∃ g c, e = .returned (.slice (some ⟨g, 0, none⟩) (fill xs).length c) ∧ g < w'.heap.size ∧ (∀ (j : Nat) (h : j < (fill xs).length), w'.cell? ⟨g, j, none⟩ = some (.int .u8 ((fill xs)[j].toNat : Int))) ∧ Txt w' w'.heap.size (.slice (some ⟨g, 0, none⟩) (fill xs).length c) (fill xs)) ∧ Below w.heap.size w w' := by
 have HX := Lib.hid hx
 obtain ⟨A, cap, rfl, -, -, -, -⟩ := hx
 obtain ⟨i0, hi, hz0, hz1, hz2⟩ := info_parts infoByte
 have I0 := Lib.hid hi
 have I1 := Lib.hid hz0
 have I2 := Lib.hid hz1
 have I3 := Lib.hid hz2
 have hmk : ∀ w' : World, (Instr.makeSlice 22 (.int .i64 8) (.int .i64 8)).run Tryz.prog w' = .ok (.slice (some ⟨w'.heap.size, 0, none⟩) 8 8) (w'.alloc (.cells (rowB (List.replicate 8 0)) 5)) := make_noughts 8 (by omega)
 have MK := Lib.hid hmk
 clear hi hz0 hz1 hz2 hmk
 go_enter Tryz.func78, Tryz.ntmps78
 go_wp2_with (first
  | (refine wpList_append_txt (o := ⟨some 9, _, _, _, _, _⟩) rfl (.tmp 7) (.tmp 8) _ rfl Tryz.underlying22 I0.out I1.out I2.out I3.out rfl (World.ownsRow_nil _ w.heap.size 5 1) rfl HX.out (by omega) (Nat.le_refl _) ?_; intro v1 w1 hown1 hgrow1; have b1 := (Below.refl w.heap.size w).grown hgrow1 (Nat.le_refl _) (fun k hk => by cases hk); have B1 := Lib.hid b1; have O1 := Lib.hid hown1; clear b1 hown1 hgrow1)
  | (refine wpList_append_cells (o := ⟨some 12, _, _, _, _, _⟩) rfl (.tmp 10) (.tmp 11) _ rfl Tryz.underlying22 I0.out I1.out rfl I2.out I3.out (by decide) rfl (owns_below O1.out (below_new _ _)) (news := [.int .u8 128]) rfl (fun j u hj => by rw [World.cell?_alloc_new]; simpa using hj) (by simp [Value.oneCell']) (by simp; omega) (Nat.le_trans B1.out.size (by simp)) ?_; intro v2 w2 hown hgrow; have bb := ((B1.out.alloc B1.out.size (.cells #[.int .u8 128] 5)).grown hgrow (Nat.le_trans B1.out.size (by simp)) (own_ge O1.out)); have B2 := Lib.hid bb; have O2 := Lib.hid hown; clear bb hown hgrow))
 obtain ⟨z, hz⟩ : ∃ z, z = 64 * ((xs.length + 8) / 64 + 1) - xs.length - 9 := ⟨_, rfl⟩
 have hfill : fill xs = xs ++ 128 :: (List.replicate z 0 ++ be8 (8 * xs.length)) := by rw [hz]; rfl
 have HZ : Hid (∀ k, k ≤ z → ((xs.length + 1 + k) % 64 = 56 ↔ k = z)) := Lib.hid (fun k hk => by omega)
 have HZL : Hid (z ≤ 70) := Lib.hid (by omega)
 have HF := Lib.hid hfill
 have O3 : Hid (w2.ownsRow w.heap.size 5 1 v2 (xs.length + 1 + 0) ((xs ++ 128 :: List.replicate 0 0).map u8)) := Lib.hid (by
  have := O2.out
  simpa [u8] using this)
 clear hfill hz O1 O2 B1
 go_loopw [3] (fun s3 wr => ∃ k : Nat, k ≤ z ∧ wr.ownsRow w.heap.size 5 1 s3 (xs.length + 1 + k) ((xs ++ 128 :: List.replicate k 0).map u8) ∧ Below w.heap.size w wr) (fun s3 _ => 10000 - lenOf s3)
 case atStart => exact ⟨0, by omega, O3.out, B2.out⟩
 case round =>
  obtain ⟨k, hk, ho, hb⟩ := hrel
  clear O3 B2
  obtain ⟨A3, c3, rfl⟩ := own_slice_ ho
  have HO := Lib.hid ho
  have HB := Lib.hid hb
  clear ho hb
  obtain ⟨q, hq⟩ : ∃ q, q = xs.length + 1 + k := ⟨_, rfl⟩
  have hzz := HZ.out k hk
  have hzl := HZL.out
  rw [← hq] at HO hzz ⊢
  have HQ := Lib.hid hq
  by_cases hlt : k = z
  ·have h56 : (q : Int) % 64 = 56 := by have := hzz.2 hlt; omega
   have h56t : (q : Int).tmod 64 = 56 := by rw [Int.tmod_eq_emod_of_nonneg (by omega)]; exact h56
   clear hzz hq
   have mk := MK.out
   go_wp2_with fail
   have htw : rowB [0, 0, 0, 0, 0, 0, 0, 0] = rowB (tailP (8 * xs.length) 0) := by rw [tailP_zero]; rfl
   rw [htw]
   have ht0 := heap_alloc_self wr (.cells (rowB (tailP (8 * xs.length) 0)) 5)
   have hbn := below_new wr (.cells (rowB (tailP (8 * xs.length) 0)) 5)
   generalize wr.alloc (.cells (rowB (tailP (8 * xs.length) 0)) 5) = r0 at ht0 hbn ⊢
   have T0 := Lib.hid ht0
   have T1 := Lib.hid hbn
   clear ht0 hbn htw mk
   generalize wr = wo at *
   go_loopw [4, 6] (fun s4 s6 wx => ∃ k' : Nat, k' ≤ 8 ∧ s4 = .int .i64 ((8 * xs.length / 2 ^ (8 * k') : Nat) : Int) ∧ s6 = .int .i64 (7 - (k' : Int)) ∧ wx.heap[wo.heap.size]? = some (.cells (rowB (tailP (8 * xs.length) k')) 5 (0, 0)) ∧ Below wo.heap.size wo wx) (fun _ s6 _ => (intOf s6 + 1).toNat)
   case atStart => exact ⟨0, by omega, by congr 1; simp, rfl, T0.out, T1.out⟩
   case round =>
    obtain ⟨m, hm, rfl, rfl, q0, q1⟩ := hrel
    clear T0 T1
    have Q1 := Lib.hid q1
    clear q1
    by_cases hml : m < 8
    ·obtain ⟨j, hj⟩ : ∃ j, j = 7 - m := ⟨_, rfl⟩
     have hjI : (7 : Int) - m = j := by omega
     have hj8 : (j : Int) < 8 := by omega
     have hset := tailP_set (8 * xs.length) hml
     rw [← hj] at hset
     have hnext : 8 * xs.length / 2 ^ (8 * (m + 1)) = 8 * xs.length / 2 ^ (8 * m) / 256 := by
      rw [Nat.div_div_eq_div_mul, show (256 : Nat) = 2 ^ 8 from rfl, ← Nat.pow_add]
      congr 2
     have hLl : 8 * xs.length / 2 ^ (8 * m) ≤ 40000 := Nat.le_trans (Nat.div_le_self _ _) (by omega)
     obtain ⟨y, hc⟩ : ∃ y, wr.cell? ⟨wo.heap.size, j, none⟩ = some y := ⟨_, (cell_of_row wr wo.heap.size j _ _ _ q0).trans (rowB_at (l := tailP (8 * xs.length) m) (j := j) (by rw [tailP_length _ hm]; omega))⟩
     have hf := frozen_of_row wr wo.heap.size j _ _ q0
     have hrow : (rowB (tailP (8 * xs.length) m)).setIfInBounds j (.int .u8 (((8 * xs.length / 2 ^ (8 * m) : Nat) : Int) % 256)) = rowB (tailP (8 * xs.length) (m + 1)) := by
      rw [← hset, ← rowB_set, UInt8.toNat_ofNat']
      congr 2
     have HSET := Lib.hid hrow
     have HNEXT := Lib.hid hnext
     have Q0 := Lib.hid q0
     have HJ := Lib.hid hj
     clear hset hnext hrow q0 hj
     rw [hjI]
     clear hjI
     generalize 8 * xs.length / 2 ^ (8 * m) = L at *
     go_wp2
     go_roundw
     case measure => first | (simp [intOf]; done) | (simp [intOf]; omega)
     case rel =>
      have := HJ.out
      refine ⟨m + 1, by omega, ?_, ?_, ?_, Q1.out.setCell (Nat.le_refl _) _⟩
      ·rw [HNEXT.out]; congr 1
      ·congr 1; omega
      ·rw [heap_setCell_same _ _ _ _ _ _ Q0.out, HSET.out]
    ·obtain rfl : m = 8 := by omega
     have hng : ¬ (0 : Int) ≤ 7 - 8 := by omega
     rw [tailP_all] at q0
     have Q0 := Lib.hid q0
     clear q0
     have hz0 : ((8 * xs.length / 2 ^ (8 * 8) : Nat) : Int) = 0 := by
      have : 8 * xs.length / 2 ^ (8 * 8) = 0 := Nat.div_eq_of_lt (by omega)
      rw [this]; rfl
     rw [hz0, show (7 : Int) - ((8 : Nat) : Int) = -1 by omega]
     have oz := owns_below HO.out Q1.out
     have ow := HB.out.trans (Q1.out.mono HB.out.size)
     have OZ := Lib.hid oz
     have OW := Lib.hid ow
     clear oz ow hz0 hng
     have hlen8 := be8_length (8 * xs.length)
     go_wp2_with (refine wpList_append_cells (o := ⟨some 38, _, _, _, _, _⟩) (c := 8) rfl (.tmp 36) (.tmp 37) _ rfl Tryz.underlying22 I0.out I1.out rfl I2.out I3.out (by decide) rfl OZ.out (b := wo.heap.size) (news := (be8 (8 * xs.length)).map u8) (by rw [List.length_map, hlen8]; rfl) (fun j u hj => by rw [cell_of_row _ _ _ _ _ _ Q0.out]; simpa [rowB] using hj) (u8s_oneCell _) (by rw [List.length_map, hlen8]; have := HQ.out; omega) OW.out.size ?_; intro v5 w5 hown hgrow; have bb := (OW.out.grown hgrow OW.out.size (own_ge OZ.out)); have B5 := Lib.hid bb; have O5 := Lib.hid hown; clear bb hown hgrow)
     have h5 := O5.out
     have hq := HQ.out
     have hfl : (fill xs).length = q + 8 := by
      rw [HF.out, List.length_append, List.length_cons, List.length_append, List.length_replicate, hlen8]; omega
     have hmap : (xs ++ 128 :: List.replicate k 0).map u8 ++ (be8 (8 * xs.length)).map u8 = (fill xs).map u8 := by
      rw [HF.out, hlt, ← List.map_append, List.append_assoc, List.cons_append]
     rw [hmap, List.length_map, hlen8, ← hfl] at h5
     have ht := Txt.own (by unfold maxLen; omega) h5
     rcases id h5.2 with ⟨-, hbad⟩ | ⟨g, c5, cur, rfl, hg, hgb, -, -, -, -⟩
     ·omega
     have hcell : ∀ (j : Nat) (h : j < (fill xs).length), w5.cell? ⟨g, j, none⟩ = some (.int .u8 ((fill xs)[j].toNat : Int)) := fun j hj => by
      rw [h5.cellAt j (by omega), List.getElem?_map, List.getElem?_eq_getElem hj]; rfl
     have HT := Lib.hid ht
     have HC := Lib.hid hcell
     have HGB := Lib.hid (heap_lt hgb)
     clear h5 hmap hfl ht hcell hgb hg hlen8 hq O5
     go_ret
     exact ⟨⟨g, c5, rfl, HGB.out, HC.out, HT.out⟩, B5.out⟩
  ·have hne : ¬ (q : Int) % 64 = 56 := fun e => hlt (hzz.1 (by omega))
   have hb1 : ((q : Int) % 64 == 56) = false := by simpa using hne
   have hb2 : ((q : Int) % 64 != 56) = true := by simpa using hne
   clear hzz
   go_wp2_with (refine wpList_append_cells (o := ⟨some 19, _, _, _, _, _⟩) rfl (.tmp 17) (.tmp 18) _ rfl Tryz.underlying22 I0.out I1.out rfl I2.out I3.out (by decide) rfl (owns_below HO.out (below_new _ _)) (news := [.int .u8 0]) rfl (fun j u hj => by rw [World.cell?_alloc_new]; simpa using hj) (by simp [Value.oneCell']) (by simp; omega) (Nat.le_trans HB.out.size (by simp)) ?_; intro v4 w4 hown hgrow; have bb := ((HB.out.alloc HB.out.size (.cells #[.int .u8 0] 5)).grown hgrow (Nat.le_trans HB.out.size (by simp)) (own_ge HO.out)); have B4 := Lib.hid bb; have O4 := Lib.hid hown; clear bb hown hgrow)
   obtain ⟨A4, c4, rfl⟩ := own_slice_ O4.out
   go_roundw
   case measure => simp only [lenOf]; have := HQ.out; simp; omega
   case rel =>
    refine ⟨k + 1, by omega, ?_, B4.out⟩
    have := O4.out
    rw [HQ.out] at this ⊢
    simpa [List.replicate_succ', u8, Nat.add_assoc] using this

/-- Where all stands, behind n blocks. -/
def SAt (w : World) (g bh : Nat) (X : List UInt8) (n : Nat) (v : World) : Prop :=
 v.heap[w.heap.size]? = some (.cells (Array.replicate 32 (.int .u8 0)) 47 (0, 0)) ∧ v.heap[bh]? = some (.cells (row32 (hashTo X begin8 n)) 124 (0, 0)) ∧
 (∀ (j : Nat) (h : j < X.length), v.cell? ⟨g, j, none⟩ = some (.int .u8 (X[j].toNat : Int))) ∧ g < v.heap.size ∧ Below w.heap.size w v
theorem SAt.below {w v v' : World} {g bh n : Nat} {X : List UInt8} (a : SAt w g bh X n v) (b : Below v.heap.size v v') : SAt w g bh X n v' :=
 ⟨(b.block _ (heap_lt a.1)).trans a.1, (b.block _ (heap_lt a.2.1)).trans a.2.1, fun j h => (b.cell (p := ⟨g, j, none⟩) a.2.2.2.1).trans (a.2.2.1 j h), Nat.lt_of_lt_of_le a.2.2.2.1 b.size, a.2.2.2.2.trans (b.mono a.2.2.2.2.size)⟩

set_option maxHeartbeats 2000000 in
theorem sum_ref (v : Value) (xs : List UInt8) (hl : xs.length ≤ 5000) (w : World) (hx : Txt w w.heap.size v xs) :
  Calls Tryz.prog 41 #[v] w fun e w' => e = .returned (.agg (rowB (sumL xs))) ∧ Below w.heap.size w w' := by
 have hz8 := zero8.1
 have hz32 := zero32.1
 have HX := Lib.hid hx
 obtain ⟨A, cap, rfl, -, -, -, -⟩ := hx
 go_enter Tryz.func41, Tryz.ntmps41
 go_wp2_with fail
 have hu0 := heap_alloc_self w (.cells (Array.replicate 32 (.int .u8 0)) 47)
 have hub := below_new w (.cells (Array.replicate 32 (.int .u8 0)) 47)
 generalize w.alloc (.cells (Array.replicate 32 (.int .u8 0)) 47) = u at hu0 hub ⊢
 have U0 := Lib.hid hu0
 have UB := Lib.hid hub
 clear hu0 hub
 refine (filled_ref _ xs hl _ ((HX.out.below UB.out).more UB.out.size)).mono ?_
 rintro e w2 ⟨⟨g, c, rfl, hg, hcell, -⟩, b⟩
 have F0 := Lib.hid ((b.block _ (heap_lt U0.out)).trans U0.out)
 have FB := Lib.hid (UB.out.trans (b.mono UB.out.size))
 have hlen := fill_length xs
 obtain ⟨X, hX⟩ : ∃ X, X = fill xs := ⟨_, rfl⟩
 obtain ⟨N, hN⟩ : ∃ N, N = (xs.length + 8) / 64 + 1 := ⟨_, rfl⟩
 have hsum : sumL xs = told32 (hashTo X begin8 N) := by rw [hX, hN]; rfl
 have FC : Hid (∀ (j : Nat) (h : j < X.length), w2.cell? ⟨g, j, none⟩ = some (.int .u8 (X[j].toNat : Int))) := Lib.hid (by rw [hX]; exact hcell)
 rw [← hX, ← hN] at hlen
 rw [← hX, hlen]
 have SUM := Lib.hid hsum
 have LEN := Lib.hid hlen
 have NB : Hid (1 ≤ N ∧ N ≤ 100) := Lib.hid (by omega)
 have HG := Lib.hid hg
 obtain ⟨M, hM⟩ : ∃ M, M = 64 * N := ⟨_, rfl⟩
 rw [← hM]
 have HM := Lib.hid hM
 have hM2 : (M : Int) ≤ 6400 := by omega
 clear hsum hlen hX hN hcell hg b U0 UB hM HX
 clear u
 go_wp2_with fail
 refine (first_ref _).mono ?_
 rintro e w3 ⟨rfl, b⟩
 have A0 := Lib.hid ((b.block _ (heap_lt F0.out)).trans F0.out)
 have AB := Lib.hid (FB.out.trans (b.mono FB.out.size))
 have AC : Hid (∀ (j : Nat) (h : j < X.length), w3.cell? ⟨g, j, none⟩ = some (.int .u8 (X[j].toNat : Int))) := Lib.hid (fun j h => (b.cell (p := ⟨g, j, none⟩) HG.out).trans (FC.out j h))
 have AG : Hid (g < w3.heap.size) := Lib.hid (Nat.lt_of_lt_of_le HG.out b.size)
 clear b F0 FB FC HG
 clear w2
 go_wp2_with (refine wpList_store_row rfl 124 _ _ rfl w3.heap.size rfl rfl (heap_alloc_self _ _) zero8.2 (by simp [row32_size, begin8]) (row32_one _) ?_; rw [World.setRow_alloc_new])
 have hv : SAt w g w3.heap.size X 0 (w3.alloc (.cells (row32 begin8) 124)) :=
  ⟨(heap_alloc_lt _ _ (heap_lt A0.out)).trans A0.out, heap_alloc_self _ _, fun j h => ((below_new w3 _).cell (p := ⟨g, j, none⟩) AG.out).trans (AC.out j h), by rw [heap_alloc_size]; have := AG.out; omega, AB.out.alloc AB.out.size _⟩
 have GH : Hid (w.heap.size < w3.heap.size) := Lib.hid (heap_lt A0.out)
 generalize w3.alloc (.cells (row32 begin8) 124) = q at hv ⊢
 have HV := Lib.hid hv
 obtain ⟨bh, hbh⟩ : ∃ bh, bh = w3.heap.size := ⟨_, rfl⟩
 rw [← hbh] at HV GH AG ⊢
 clear hv hbh A0 AB AC
 clear w3
 go_loopw [5] (fun s5 wr => ∃ n : Nat, n ≤ N ∧ s5 = .int .i64 ((64 * n : Nat) : Int) ∧ SAt w g bh X n wr) (fun s5 _ => 6400 - (intOf s5).toNat)
 case atStart => exact ⟨0, by omega, rfl, HV.out⟩
 case round =>
  obtain ⟨n, hn, rfl, hat⟩ := hrel
  have AT := Lib.hid hat
  clear hat HV
  obtain ⟨P, hP⟩ : ∃ P, P = 64 * n := ⟨_, rfl⟩
  rw [← hP]
  have HP := Lib.hid hP
  by_cases hlt : n < N
  ·have hPM : (P : Int) + 64 ≤ M := by have := HM.out; omega
   have hP0 : (P : Int) < M := by omega
   have hk : P + 64 ≤ X.length := by have := LEN.out; omega
   have HK := Lib.hid hk
   have HN := Lib.hid hn
   have OKN := Lib.hid (hashTo_ok begin8_ok X n)
   clear hP hk hn
   go_wp2_with (refine wpList_load_row rfl 124 _ rfl bh rfl AT.out.2.1 Tryz.underlying124 (by rw [row32_size, OKN.out.1]; exact zero8.2) ?_)
   refine (behind_ref _ OKN.out g P M c ((X.drop P).take 64) (by rw [List.length_take, List.length_drop]; have := HK.out; omega) _ AT.out.2.2.2.1 (fun j hj => by
    rw [List.length_take, List.length_drop] at hj
    rw [AT.out.2.2.1 (P + j) (by have := HK.out; omega), List.getElem_take, List.getElem_drop]) (by have := HK.out; have := LEN.out; have := HM.out; omega) (by omega)).mono ?_
   rintro e w4 ⟨rfl, b⟩
   have hu := AT.out.below b
   have OK1 := Lib.hid (hashTo_ok begin8_ok X (n + 1))
   have hst : blockL (hashTo X begin8 n) ((X.drop P).take 64) = hashTo X begin8 (n + 1) := by rw [HP.out]; rfl
   rw [hst]
   have HU := Lib.hid hu
   clear hu b hst
   go_wp2_with (refine wpList_store_row rfl 124 _ _ rfl bh rfl rfl HU.out.2.1 (by rw [row32_size, OK1.out.1]; exact zero8.2) (by rw [row32_size, row32_size, OK1.out.1, OKN.out.1]) (row32_one _) ?_)
   go_roundw
   case measure => simp [intOf]; omega
   case rel =>
    have g1 := GH.out
    have g2 := AG.out
    obtain ⟨r0, r1, r2, r3, r4⟩ := HU.out
    refine ⟨n + 1, by have := HN.out; omega, by rw [show ((64 * (n + 1) : Nat) : Int) = (P : Int) + 64 by have := HP.out; omega], ?_, setRow_heap _ _ _ _ _ _ r1, ?_, by rw [size_setRow]; exact r3, below_setRow r4 (by omega) _⟩
    ·rw [setRow_other _ _ _ _ (by omega)]; exact r0
    ·intro j h
     rw [cell_setRow_other _ _ _ _ (show g ≠ bh by omega)]; exact r2 j h
  ·obtain rfl : n = N := by omega
   have hPM : P = M := by have := HM.out; omega
   have hlt' : ¬ (M : Int) < M := by omega
   rw [hPM]
   obtain ⟨H, hH⟩ : ∃ H, H = hashTo X begin8 n := ⟨_, rfl⟩
   have OKH : Hid (W32 8 H) := Lib.hid (by rw [hH]; exact hashTo_ok begin8_ok X n)
   obtain ⟨r0, r1, r2, r3, r4⟩ := AT.out
   rw [← hH] at r1
   have HEQ := Lib.hid hH
   have R0 := Lib.hid r0
   have R1 := Lib.hid r1
   have R3 := Lib.hid r4
   clear hH r0 r1 r2 r3 r4 AT hlt hP hPM
   go_wp2_with fail
   have hv0 := heap_alloc_self wr (.cells (Array.replicate 32 (.int .u8 0)) 47)
   have hv1 := (heap_alloc_lt wr (.cells (Array.replicate 32 (.int .u8 0)) 47) (heap_lt R0.out)).trans R0.out
   have hv2 := (heap_alloc_lt wr (.cells (Array.replicate 32 (.int .u8 0)) 47) (heap_lt R1.out)).trans R1.out
   have hv3 : Below w.heap.size w (wr.alloc (.cells (Array.replicate 32 (.int .u8 0)) 47)) := R3.out.alloc R3.out.size _
   have GB : Hid (bh < wr.heap.size) := Lib.hid (heap_lt R1.out)
   generalize wr.alloc (.cells (Array.replicate 32 (.int .u8 0)) 47) = q2 at hv0 hv1 hv2 hv3 ⊢
   obtain ⟨bo, hbo⟩ : ∃ bo, bo = wr.heap.size := ⟨_, rfl⟩
   rw [← hbo] at hv0 GB ⊢
   have V0 := Lib.hid hv0
   have V1 := Lib.hid hv1
   have V2 := Lib.hid hv2
   have V3 := Lib.hid hv3
   clear hv0 hv1 hv2 hv3 hbo R0 R1 R3
   clear wr
   go_loopw [7] (fun s7 wx => ∃ i : Nat, i ≤ 32 ∧ s7 = .int .i64 i ∧ wx.heap[w.heap.size]? = some (.cells (Array.replicate 32 (.int .u8 0)) 47 (0, 0)) ∧ wx.heap[bh]? = some (.cells (row32 H) 124 (0, 0)) ∧ wx.heap[bo]? = some (.cells (rowB (tf (told32 H) 0 i)) 47 (0, 0)) ∧ Below w.heap.size w wx) (fun s7 _ => 32 - (intOf s7).toNat)
   case atStart => exact ⟨0, by omega, rfl, V1.out, V2.out, by rw [tf_zero, rowB_zero, told32_length]; exact V0.out, V3.out⟩
   case round =>
    obtain ⟨i, hi, rfl, q0, q1, q2, q3⟩ := hrel
    clear V0 V1 V2 V3
    have Q0 := Lib.hid q0
    have Q1 := Lib.hid q1
    have Q2 := Lib.hid q2
    have Q3 := Lib.hid q3
    clear q0 q1 q2 q3
    by_cases hlt : i < 32
    ·have hlt' : (i : Int) < 32 := by omega
     obtain ⟨j, hj⟩ : ∃ j, j = i / 4 := ⟨_, rfl⟩
     obtain ⟨r, hr⟩ : ∃ r, r = i % 4 := ⟨_, rfl⟩
     obtain ⟨k, hk⟩ : ∃ k, k = 24 - 8 * r := ⟨_, rfl⟩
     have hjI : (i : Int) / 4 = j := by omega
     have hrI : (i : Int) % 4 = r := by omega
     have hrT : (i : Int).tmod 4 = r := by rw [Int.tmod_eq_emod_of_nonneg (by omega)]; exact hrI
     have hkI : (24 : Int) - (r : Int) * 8 = k := by omega
     have hkI' : (24 : Int) - 8 * (r : Int) = k := by omega
     have hj8 : (j : Int) < 8 := by omega
     have hr4 : (r : Int) < 4 := by omega
     have hk32 : (k : Int) < 32 := by omega
     have hk31 : k ≤ 31 := by omega
     have hset := tf_set (told32 H) 0 (i := i) (by rw [told32_length]; exact hlt)
     rw [told32_at H hlt, ← hj, ← hr, ← hk] at hset
     have hrow : (rowB (tf (told32 H) 0 i)).setIfInBounds i (.int .u8 (((H.getD j 0 / 2 ^ k : Nat) : Int) % 256)) = rowB (tf (told32 H) 0 (i + 1)) := by
      rw [← hset, ← rowB_set, UInt8.toNat_ofNat']
      congr 2
     have hc := row32_cell Q1.out (j := j) (n := H.getD j 0) (by rw [List.getD_eq_getElem?_getD, List.getElem?_eq_getElem (by rw [OKH.out.1]; omega)]; rfl)
     have hx := OKH.out.getD j
     have HSET := Lib.hid hrow
     clear hrow hset hj hr hk
     generalize H.getD j 0 = x at *
     go_wp2_with fail
     refine (shifted_any x k _ hx hk31 (by rfl) _).mono ?_
     rintro e w' ⟨rfl, hw'⟩
     obtain rfl := hw'.symm
     obtain ⟨y, hc2⟩ : ∃ y, wr.cell? ⟨bo, i, none⟩ = some y := ⟨_, (cell_of_row wr bo i _ _ _ Q2.out).trans (rowB_at (l := tf (told32 H) 0 i) (j := i) (by rw [tf_length _ _ (by rw [told32_length]; omega), told32_length]; exact hlt))⟩
     have hf := frozen_of_row wr bo i _ _ Q2.out
     have hY : x / 2 ^ k < 4294967296 := Nat.lt_of_le_of_lt (Nat.div_le_self _ _) hx
     generalize x / 2 ^ k = Y at *
     clear hc
     go_wp2
     go_roundw
     case measure => simp [intOf]; omega
     case rel =>
      have g1 := GH.out
      have g2 := GB.out
      refine ⟨i + 1, by omega, by go_num, ?_, ?_, ?_, Q3.out.setCell (show w.heap.size ≤ bo by omega) _⟩
      ·rw [heap_setCell_other _ _ _ _ (show w.heap.size ≠ bo by omega)]; exact Q0.out
      ·rw [heap_setCell_other _ _ _ _ (show bh ≠ bo by omega)]; exact Q1.out
      ·rw [heap_setCell_same _ _ _ _ _ _ Q2.out, HSET.out]
    ·obtain rfl : i = 32 := by omega
     have hlt' : ¬ (32 : Int) < 32 := by omega
     have hall : rowB (tf (told32 H) 0 32) = rowB (sumL xs) := by
      have := tf_all (told32 H) (0 : UInt8)
      rw [told32_length] at this
      rw [this, SUM.out, HEQ.out]
     rw [hall] at Q2
     have hl32 : (sumL xs).length = 32 := by rw [SUM.out, told32_length]
     have HL := Lib.hid hl32
     clear hall hl32 hlt
     go_wp2_with (first
      | refine wpList_load_row rfl 47 _ rfl bo rfl Q2.out Tryz.underlying47 (by rw [rowB_size, HL.out]; exact zero32.2) ?_
      | refine wpList_store_row rfl 47 _ _ rfl w.heap.size rfl rfl Q0.out (by rw [rowB_size, HL.out]; exact zero32.2) (by rw [rowB_size, HL.out]; simp) (rowB_one _) ?_)
     refine bodyPost_ret (v := .agg (rowB (sumL xs))) ?_ rfl ⟨rfl, below_setRow Q3.out (Nat.le_refl _) _⟩
     exact results_cell_row rfl _ _ w.heap.size _ _ (0, 0) _ rfl (setRow_heap _ _ _ _ _ _ Q0.out) Tryz.underlying47 rfl (by rw [rowB_size, HL.out]; exact zero32.2)
end Go.Proofs.YteloiajocjahmaaGreatDoor
