/-
  The document's own answer: what a block makes of eight words.
  Conditions: none.
-/
import Derived.Test.YtdaaemnfphagbaaDoorShaRefWords
import Derived.Deep.RegionWith
set_option linter.unusedVariables false
set_option linter.unusedSimpArgs false
namespace Go.Proofs.YtdaaemnfphagbaaDoor
open Go.RowKit

set_option maxRecDepth 100000 in
theorem constants_ref (w : World) : Calls Tryd.prog 32 #[] w fun e w' => e = .returned (.slice (some ⟨w.heap.size, 0, none⟩) 64 64) ∧ w.alloc (.cells (row32 kk) 42) = w' := by
  go_enter Tryd.func32, Tryd.ntmps32
  go_wp2
  go_ret
  exact ⟨rfl, rfl⟩
theorem addL_comm (h g : List Nat) : addL h g = addL g h := by
  unfold addL
  rw [List.zipWith_comm]
  congr 1
  funext x y
  rw [Nat.add_comm]

/-- Where all stands, at the great loop. -/
def BeAt (w : World) (hh W : List Nat) (bk bw : Nat) (v : World) : Prop :=
  v.heap[w.heap.size]? = some (.cells (row32 hh) 43 (0, 0)) ∧ v.heap[w.heap.size + 1]? = some (.cells (Array.replicate 8 (.int .u32 0)) 43 (0, 0)) ∧
  (∀ (j x : Nat), kk[j]? = some x → v.cell? ⟨bk, j, none⟩ = some (.int .u32 (x : Int))) ∧ (∀ (j x : Nat), W[j]? = some x → v.cell? ⟨bw, j, none⟩ = some (.int .u32 (x : Int))) ∧ (bk < v.heap.size ∧ bw < v.heap.size) ∧ Below w.heap.size w v
theorem BeAt.below {w v v' : World} {hh W : List Nat} {bk bw : Nat} (a : BeAt w hh W bk bw v) (b : Below v.heap.size v v') : BeAt w hh W bk bw v' := by
  obtain ⟨h1, h2, h3, h4, ⟨h5, h6⟩, h7⟩ := a
  exact ⟨(b.block _ (heap_lt h1)).trans h1, (b.block _ (heap_lt h2)).trans h2, fun j x hj => (b.cell (p := ⟨bk, j, none⟩) h5).trans (h3 j x hj), fun j x hj => (b.cell (p := ⟨bw, j, none⟩) h6).trans (h4 j x hj),
    ⟨Nat.lt_of_lt_of_le h5 b.size, Nat.lt_of_lt_of_le h6 b.size⟩, h7.trans (b.mono h7.size)⟩
theorem BeAt.alloc {w v : World} {hh W : List Nat} {bk bw : Nat} (a : BeAt w hh W bk bw v) (o : Obj) : BeAt w hh W bk bw (v.alloc o) := a.below (below_new v o)
theorem BeAt.drew {w v : World} {hh W : List Nat} {bk bw : Nat} (a : BeAt w hh W bk bw v) : BeAt w hh W bk bw v.drew := ⟨a.1, a.2.1, a.2.2.1, a.2.2.2.1, a.2.2.2.2.1, a.2.2.2.2.2.drew⟩
theorem BeAt.drewN {w v : World} {hh W : List Nat} {bk bw : Nat} (a : BeAt w hh W bk bw v) (n : Nat) : BeAt w hh W bk bw (v.drewN n) := ⟨a.1, a.2.1, a.2.2.1, a.2.2.2.1, a.2.2.2.2.1, below_drewN a.2.2.2.2.2 n⟩

set_option maxRecDepth 100000 in
set_option maxHeartbeats 4000000 in
theorem behind_eight (h0 h1 h2 h3 h4 h5 h6 h7 : Nat) (hok : W32 8 [h0, h1, h2, h3, h4, h5, h6, h7]) (bb at_ n cap : Nat) (B : List UInt8) (hB : B.length = 64) (w : World) (hblk : bb < w.heap.size) (hc : ∀ (j : Nat) (h : j < B.length), w.cell? ⟨bb, at_ + j, none⟩ = some (.int .u8 (B[j].toNat : Int))) (ha : at_ + 64 ≤ n) (hn : n ≤ 10000) :
    Calls Tryd.prog 28 #[.agg (row32 [h0, h1, h2, h3, h4, h5, h6, h7]), .slice (some ⟨bb, 0, none⟩) n cap, .int .i64 at_] w fun e w' => e = .returned (.agg (row32 (blockL [h0, h1, h2, h3, h4, h5, h6, h7] B))) ∧ Below w.heap.size w w' := by
  obtain ⟨W, hW⟩ : ∃ W, W = sched (words16 B) 48 := ⟨_, rfl⟩
  obtain ⟨hh, hhe⟩ : ∃ hh, hh = [h0, h1, h2, h3, h4, h5, h6, h7] := ⟨_, rfl⟩
  have hblkL : blockL [h0, h1, h2, h3, h4, h5, h6, h7] B = addL hh (rounds W hh 64) := by rw [hW, hhe]; rfl
  rw [hblkL]
  have hgetc : ∀ (j x : Nat), hh[j]? = some x → (row32 hh)[j]? = some (.int .u32 (x : Int)) := fun j x h => row32_at h
  have g0 := hgetc 0 h0 (by rw [hhe]; rfl)
  have g1 := hgetc 1 h1 (by rw [hhe]; rfl)
  have g2 := hgetc 2 h2 (by rw [hhe]; rfl)
  have g3 := hgetc 3 h3 (by rw [hhe]; rfl)
  have g4 := hgetc 4 h4 (by rw [hhe]; rfl)
  have g5 := hgetc 5 h5 (by rw [hhe]; rfl)
  have g6 := hgetc 6 h6 (by rw [hhe]; rfl)
  have g7 := hgetc 7 h7 (by rw [hhe]; rfl)
  rw [← hhe] at hok ⊢
  have OKH := Lib.hid hok
  have WOK : Hid (W32 64 W) := Lib.hid (by rw [hW]; exact sched_ok (words16_ok B) 48)
  have HHE := Lib.hid hhe
  have HW := Lib.hid hW
  have HB := Lib.hid hB
  have HC := Lib.hid hc
  have HBK := Lib.hid hblk
  have G0 := Lib.hid g0
  have G1 := Lib.hid g1
  have G2 := Lib.hid g2
  have G3 := Lib.hid g3
  have G4 := Lib.hid g4
  have G5 := Lib.hid g5
  have G6 := Lib.hid g6
  have G7 := Lib.hid g7
  have hz8 := zero8.1
  have hf0 : ((w.alloc (.cells (row32 hh) 43)).alloc (.cells (Array.replicate 8 (.int .u32 0)) 43)).heap[w.heap.size]? = some (.cells (row32 hh) 43 (0, 0)) := by
    rw [heap_alloc_lt _ _ (by rw [heap_alloc_size]; omega), heap_alloc_self]
  have hf1 : ((w.alloc (.cells (row32 hh) 43)).alloc (.cells (Array.replicate 8 (.int .u32 0)) 43)).heap[w.heap.size + 1]? = some (.cells (Array.replicate 8 (.int .u32 0)) 43 (0, 0)) := by
    have := heap_alloc_self (w.alloc (.cells (row32 hh) 43)) (.cells (Array.replicate 8 (.int .u32 0)) 43)
    rwa [heap_alloc_size] at this
  have hfb : Below w.heap.size w ((w.alloc (.cells (row32 hh) 43)).alloc (.cells (Array.replicate 8 (.int .u32 0)) 43)) :=
    ((Below.refl _ _).alloc (Nat.le_refl _) _).alloc (by simp) _
  have F0 := Lib.hid hf0
  have F1 := Lib.hid hf1
  have FB := Lib.hid hfb
  clear hgetc g0 g1 g2 g3 g4 g5 g6 g7 hok hhe hW hB hc hblk hf0 hf1 hfb hblkL
  go_enter Tryd.func28, Tryd.ntmps28
  go_wp2_with fail
  generalize (w.alloc (.cells (row32 hh) 43)).alloc (.cells (Array.replicate 8 (.int .u32 0)) 43) = u at F0 F1 FB ⊢
  refine (constants_ref _).mono ?_
  rintro e w1 ⟨rfl, rfl⟩
  have hk1 : ∀ (j x : Nat), kk[j]? = some x → (u.alloc (.cells (row32 kk) 42)).cell? ⟨u.heap.size, j, none⟩ = some (.int .u32 (x : Int)) := fun j x hj => by
    rw [World.cell?_alloc_new]; exact row32_at hj
  have hcb : Below w.heap.size w (u.alloc (.cells (row32 kk) 42)) := FB.out.alloc FB.out.size _
  have hq0 := (heap_alloc_lt u (.cells (row32 kk) 42) (heap_lt F0.out)).trans F0.out
  have hq1 := (heap_alloc_lt u (.cells (row32 kk) 42) (heap_lt F1.out)).trans F1.out
  have hks : u.heap.size < (u.alloc (.cells (row32 kk) 42)).heap.size := by simp
  obtain ⟨bk, hbk⟩ : ∃ bk, bk = u.heap.size := ⟨_, rfl⟩
  rw [← hbk] at hk1 hks ⊢
  generalize u.alloc (.cells (row32 kk) 42) = u1 at hk1 hcb hq0 hq1 hks ⊢
  have K1 := Lib.hid hk1
  have K2 := Lib.hid hcb
  have K3 := Lib.hid hq0
  have K4 := Lib.hid hq1
  have K5 := Lib.hid hks
  clear hk1 hcb hq0 hq1 hks hbk F0 F1 FB
  clear u
  go_wp2_with fail
  refine (words_ref bb at_ n cap B HB.out _ (Nat.lt_of_lt_of_le HBK.out K2.out.size) (fun j h => (K2.out.cell (p := ⟨bb, at_ + j, none⟩) HBK.out).trans (HC.out j h)) ha hn).mono ?_
  rintro e w2 ⟨⟨bw, cw, rfl, hbw, hww⟩, b⟩
  rw [← HW.out] at hww
  have hat : BeAt w hh W bk bw w2 := by
    refine ⟨(b.block _ (heap_lt K3.out)).trans K3.out, (b.block _ (heap_lt K4.out)).trans K4.out, fun j x hj => (b.cell (p := ⟨bk, j, none⟩) K5.out).trans (K1.out j x hj), hww, ⟨Nat.lt_of_lt_of_le K5.out b.size, ?_⟩, K2.out.trans (b.mono K2.out.size)⟩
    exact cell_lt (hww 0 _ (List.getElem?_eq_getElem (show 0 < W.length by rw [WOK.out.1]; omega)))
  have AT0 := Lib.hid hat
  clear hat hww hbw b K1 K2 K3 K4 K5 HW HC HBK
  clear u1
  have cell : ∀ (j : Nat), w2.cell? ⟨w.heap.size, j, none⟩ = (row32 hh)[j]? := fun j => cell_of_row _ _ _ _ _ _ AT0.out.1
  have c0 := (cell 0).trans G0.out
  have c1 := (cell 1).trans G1.out
  have c2 := (cell 2).trans G2.out
  have c3 := (cell 3).trans G3.out
  have c4 := (cell 4).trans G4.out
  have c5 := (cell 5).trans G5.out
  have c6 := (cell 6).trans G6.out
  have c7 := (cell 7).trans G7.out
  clear cell G0 G1 G2 G3 G4 G5 G6 G7
  go_wp2_with fail
  go_quiet (fail)
  clear c0 c1 c2 c3 c4 c5 c6 c7
  have hat := AT0.out.drewN nq
  generalize w2.drewN nq = q at hat ⊢
  have AT1 := Lib.hid hat
  clear hat AT0
  clear w2
  go_wp2_with fail
  go_loopw [9, 10, 11, 12, 13, 14, 15, 16, 17] (fun s9 s10 s11 s12 s13 s14 s15 s16 s17 wr => ∃ (t a b c d e f g i : Nat), t ≤ 64 ∧ rounds W hh t = [a, b, c, d, e, f, g, i] ∧ s9 = .int .u32 (a : Int) ∧ s10 = .int .u32 (b : Int) ∧ s11 = .int .u32 (c : Int) ∧ s12 = .int .u32 (d : Int) ∧ s13 = .int .u32 (e : Int) ∧ s14 = .int .u32 (f : Int) ∧ s15 = .int .u32 (g : Int) ∧ s16 = .int .u32 (i : Int) ∧ s17 = .int .i64 (t : Int) ∧ BeAt w hh W bk bw wr) (fun _ _ _ _ _ _ _ _ s17 _ => 64 - (intOf s17).toNat)
  case atStart => exact ⟨0, h0, h1, h2, h3, h4, h5, h6, h7, by omega, HHE.out, rfl, rfl, rfl, rfl, rfl, rfl, rfl, rfl, rfl, AT1.out⟩
  case round =>
    obtain ⟨t, a, b, c, d, e, f, g, i, ht, hr, rfl, rfl, rfl, rfl, rfl, rfl, rfl, rfl, rfl, hat⟩ := hrel
    clear AT1
    have AT := Lib.hid hat
    have HR := Lib.hid hr
    have hrok := rounds_ok (ws := W) OKH.out t
    rw [hr] at hrok
    have la := hrok.2 a (by simp)
    have lb := hrok.2 b (by simp)
    have lc := hrok.2 c (by simp)
    have ld := hrok.2 d (by simp)
    have le := hrok.2 e (by simp)
    have lf := hrok.2 f (by simp)
    have lg := hrok.2 g (by simp)
    have li := hrok.2 i (by simp)
    clear hat hr hrok
    by_cases hlt : t < 64
    · have hlt' : (t : Int) < 64 := by omega
      go_wp2_with fail
      refine wp_region_still_tail 21 (by kernel_rfl) (by kernel_rfl) ?_
      change wpStill _ _ (World.drew wr) (fun a' => wpList _ _ _ _ a' (World.drew wr)) _ _
      have hd := AT.out.drew
      generalize World.drew wr = u at hd ⊢
      have HD := Lib.hid hd
      clear hd AT
      clear wr
      have hck := HD.out.2.2.1 t _ (kk_get hlt)
      have hcw := HD.out.2.2.2.1 t (W.getD t 0) (by rw [List.getD_eq_getElem?_getD, List.getElem?_eq_getElem (by rw [WOK.out.1]; exact hlt)]; rfl)
      have lk := kk_ok.getD t
      have lw := WOK.out.getD t
      have hst : rounds W hh (t + 1) = stepL ((kk.getD t 0 + W.getD t 0) % 4294967296) [a, b, c, d, e, f, g, i] := by rw [rounds, HR.out]
      have l6 := rotr_lt (n := 6) (by omega) le
      have l11 := rotr_lt (n := 11) (by omega) le
      have l25 := rotr_lt (n := 25) (by omega) le
      have he3 : bits .xor .u32 (bits .xor .u32 (rotr 6 e : Nat) (rotr 11 e : Nat)) (rotr 25 e : Nat) = (rot3 6 11 25 e : Nat) := by
        rw [u32_xor_nat _ _ l6 l11, u32_xor_nat _ _ (xor_w l6 l11) l25]; rfl
      have le3 := rot3_lt (p := 6) (q := 11) (r := 25) (by omega) (by omega) (by omega) le
      have lch := ch_lt le lf lg
      have HST := Lib.hid hst
      clear hst l6 l11 l25 HR
      generalize kk.getD t 0 = k at *
      generalize W.getD t 0 = x at *
      simp only [List.take_succ_cons, List.take_zero, List.drop_succ_cons, List.drop_zero]
      still_step
      still_step
      still_call (right_any _ 6 _ le (by omega) (by rfl) _)
      still_step
      still_call (right_any _ 11 _ le (by omega) (by rfl) _)
      still_step
      still_step
      still_call (right_any _ 25 _ le (by omega) (by rfl) _)
      still_step
      still_step
      still_step
      still_step
      still_call (choose_any _ _ _ le lf lg _)
      still_step
      still_step
      still_step
      still_step
      still_step
      still_step
      still_step
      still_step
      refine wpStill_nil ?_
      clear hck hcw he3
      go_wp2_with fail
      have hclS1 : (#[.int .u32 ((i : Nat) : Int), .int .u32 ((rot3 6 11 25 e : Nat) : Int), .int .u32 ((ch e f g : Nat) : Int), .int .u32 ((k : Nat) : Int), .int .u32 ((x : Nat) : Int)] : Array Value) = row32 [i, rot3 6 11 25 e, ch e f g, k, x] := by simp only [row32, List.map_cons, List.map_nil, w32]
      obtain ⟨S1, hS1⟩ : ∃ S1, S1 = sumM [i, rot3 6 11 25 e, ch e f g, k, x] := ⟨_, rfl⟩
      have lS1 : S1 < 4294967296 := by rw [hS1]; exact sumM_lt _
      have HS1 : Hid (S1 = (i + rot3 6 11 25 e + ch e f g + k + x) % 4294967296) := Lib.hid (by rw [hS1, sumM5])
      refine (sum_words _ [i, rot3 6 11 25 e, ch e f g, k, x] (by simp) (by simp [li, le3, lch, lk, lw]) _ _ (by rw [← hclS1]; exact heap_alloc_self _ _) _ _ rfl).mono ?_
      rintro e' w' ⟨rfl, rfl⟩
      rw [← hS1]
      have hatS1 := HD.out.alloc (.cells #[.int .u32 ((i : Nat) : Int), .int .u32 ((rot3 6 11 25 e : Nat) : Int), .int .u32 ((ch e f g : Nat) : Int), .int .u32 ((k : Nat) : Int), .int .u32 ((x : Nat) : Int)] 42)
      generalize u.alloc (.cells #[.int .u32 ((i : Nat) : Int), .int .u32 ((rot3 6 11 25 e : Nat) : Int), .int .u32 ((ch e f g : Nat) : Int), .int .u32 ((k : Nat) : Int), .int .u32 ((x : Nat) : Int)] 42) = u1 at hatS1 ⊢
      have D1 := Lib.hid hatS1
      clear hS1 hatS1 hclS1 HD
      have m2 := rotr_lt (n := 2) (by omega) la
      have m13 := rotr_lt (n := 13) (by omega) la
      have m22 := rotr_lt (n := 22) (by omega) la
      have ha3 : bits .xor .u32 (bits .xor .u32 (rotr 2 a : Nat) (rotr 13 a : Nat)) (rotr 22 a : Nat) = (rot3 2 13 22 a : Nat) := by
        rw [u32_xor_nat _ _ m2 m13, u32_xor_nat _ _ (xor_w m2 m13) m22]; rfl
      have la3 := rot3_lt (p := 2) (q := 13) (r := 22) (by omega) (by omega) (by omega) la
      have lmj := maj_lt la lb lc
      clear m2 m13 m22
      go_wp2_with fail
      refine (right_any _ 2 _ la (by omega) (by rfl) _).mono ?_
      rintro e' w' ⟨rfl, hw'⟩
      obtain rfl := hw'.symm
      go_wp2_with fail
      refine (right_any _ 13 _ la (by omega) (by rfl) _).mono ?_
      rintro e' w' ⟨rfl, hw'⟩
      obtain rfl := hw'.symm
      go_wp2_with fail
      refine (right_any _ 22 _ la (by omega) (by rfl) _).mono ?_
      rintro e' w' ⟨rfl, hw'⟩
      obtain rfl := hw'.symm
      go_wp2_with fail
      refine (most_any _ _ _ la lb lc _).mono ?_
      rintro e' w' ⟨rfl, hw'⟩
      obtain rfl := hw'.symm
      go_wp2_with fail
      have hclU1 : (#[.int .u32 ((rot3 2 13 22 a : Nat) : Int), .int .u32 ((maj a b c : Nat) : Int)] : Array Value) = row32 [rot3 2 13 22 a, maj a b c] := by simp only [row32, List.map_cons, List.map_nil, w32]
      obtain ⟨U1, hU1⟩ : ∃ U1, U1 = sumM [rot3 2 13 22 a, maj a b c] := ⟨_, rfl⟩
      have lU1 : U1 < 4294967296 := by rw [hU1]; exact sumM_lt _
      have HU1 : Hid (U1 = (rot3 2 13 22 a + maj a b c) % 4294967296) := Lib.hid (by rw [hU1, sumM2])
      refine (sum_words _ [rot3 2 13 22 a, maj a b c] (by simp) (by simp [la3, lmj]) _ _ (by rw [← hclU1]; exact heap_alloc_self _ _) _ _ rfl).mono ?_
      rintro e' w' ⟨rfl, rfl⟩
      rw [← hU1]
      have hatU1 := D1.out.alloc (.cells #[.int .u32 ((rot3 2 13 22 a : Nat) : Int), .int .u32 ((maj a b c : Nat) : Int)] 42)
      generalize u1.alloc (.cells #[.int .u32 ((rot3 2 13 22 a : Nat) : Int), .int .u32 ((maj a b c : Nat) : Int)] 42) = u2 at hatU1 ⊢
      have D2 := Lib.hid hatU1
      clear hU1 hatU1 hclU1 D1
      clear ha3
      go_wp2_with fail
      have hclE1 : (#[.int .u32 ((d : Nat) : Int), .int .u32 ((S1 : Nat) : Int)] : Array Value) = row32 [d, S1] := by simp only [row32, List.map_cons, List.map_nil, w32]
      obtain ⟨E1, hE1⟩ : ∃ E1, E1 = sumM [d, S1] := ⟨_, rfl⟩
      have lE1 : E1 < 4294967296 := by rw [hE1]; exact sumM_lt _
      have HE1 : Hid (E1 = (d + S1) % 4294967296) := Lib.hid (by rw [hE1, sumM2])
      refine (sum_words _ [d, S1] (by simp) (by simp [ld, lS1]) _ _ (by rw [← hclE1]; exact heap_alloc_self _ _) _ _ rfl).mono ?_
      rintro e' w' ⟨rfl, rfl⟩
      rw [← hE1]
      have hatE1 := D2.out.alloc (.cells #[.int .u32 ((d : Nat) : Int), .int .u32 ((S1 : Nat) : Int)] 42)
      generalize u2.alloc (.cells #[.int .u32 ((d : Nat) : Int), .int .u32 ((S1 : Nat) : Int)] 42) = u3 at hatE1 ⊢
      have D3 := Lib.hid hatE1
      clear hE1 hatE1 hclE1 D2
      go_wp2_with fail
      have hclA1 : (#[.int .u32 ((S1 : Nat) : Int), .int .u32 ((U1 : Nat) : Int)] : Array Value) = row32 [S1, U1] := by simp only [row32, List.map_cons, List.map_nil, w32]
      obtain ⟨A1, hA1⟩ : ∃ A1, A1 = sumM [S1, U1] := ⟨_, rfl⟩
      have lA1 : A1 < 4294967296 := by rw [hA1]; exact sumM_lt _
      have HA1 : Hid (A1 = (S1 + U1) % 4294967296) := Lib.hid (by rw [hA1, sumM2])
      refine (sum_words _ [S1, U1] (by simp) (by simp [lS1, lU1]) _ _ (by rw [← hclA1]; exact heap_alloc_self _ _) _ _ rfl).mono ?_
      rintro e' w' ⟨rfl, rfl⟩
      rw [← hA1]
      have hatA1 := D3.out.alloc (.cells #[.int .u32 ((S1 : Nat) : Int), .int .u32 ((U1 : Nat) : Int)] 42)
      generalize u3.alloc (.cells #[.int .u32 ((S1 : Nat) : Int), .int .u32 ((U1 : Nat) : Int)] 42) = u4 at hatA1 ⊢
      have D4 := Lib.hid hatA1
      clear hA1 hatA1 hclA1 D3
      go_wp2_with fail
      go_roundw
      case measure => simp [intOf]; omega
      case rel =>
        have e1 := HS1.out
        have e2 := HU1.out
        have e3 := HE1.out
        have e4 := HA1.out
        refine ⟨t + 1, A1, a, b, c, E1, e, f, g, by omega, ?_, rfl, rfl, rfl, rfl, rfl, rfl, rfl, rfl, by go_num, D4.out⟩
        rw [HST.out]
        simp only [stepL]
        have hs : (i + rot3 6 11 25 e + ch e f g + (k + x) % 4294967296) % 4294967296 = S1 := by rw [e1]; omega
        rw [hs, ← e2, ← e3, ← e4]
    · obtain rfl : t = 64 := by omega
      have hlt' : ¬ (64 : Int) < 64 := by omega
      obtain ⟨G, hG⟩ : ∃ G, G = rounds W hh 64 := ⟨_, rfl⟩
      have OKG : Hid (W32 8 G) := Lib.hid (by rw [hG]; exact rounds_ok OKH.out 64)
      have HGE := Lib.hid hG
      have HGL : Hid (G = [a, b, c, d, e, f, g, i]) := Lib.hid (by rw [hG, HR.out])
      have hset : ((((((((Array.replicate 8 (Value.int .u32 0)).setIfInBounds 0 (.int .u32 (a : Int))).setIfInBounds 1 (.int .u32 (b : Int))).setIfInBounds 2 (.int .u32 (c : Int))).setIfInBounds 3 (.int .u32 (d : Int))).setIfInBounds 4 (.int .u32 (e : Int))).setIfInBounds 5 (.int .u32 (f : Int))).setIfInBounds 6 (.int .u32 (g : Int))).setIfInBounds 7 (.int .u32 (i : Int)) = row32 G := by
        rw [set8, HGL.out]; simp only [row32, List.map_cons, List.map_nil, w32]
      have HSET := Lib.hid hset
      clear hG hset HR hlt la lb lc ld le lf lg li
      go_wp2_with (refine wpList_store_row rfl 43 _ _ rfl wr.heap.size rfl rfl (heap_alloc_self _ _) (by rw [HSET.out, row32_size, OKG.out.1]; exact zero8.2) (by rw [HSET.out, row32_size, OKG.out.1]; simp) (by rw [HSET.out]; exact row32_one _) ?_; rw [HSET.out, World.setRow_alloc_new])
      clear HSET HGL
      have hl0 := heap_alloc_self wr (.cells (row32 G) 43)
      have hat2 := AT.out.alloc (.cells (row32 G) 43)
      have hbl : Hid (w.heap.size + 1 < wr.heap.size) := Lib.hid (heap_lt AT.out.2.1)
      obtain ⟨bl, hble⟩ : ∃ bl, bl = wr.heap.size := ⟨_, rfl⟩
      rw [← hble] at hl0 hbl ⊢
      generalize wr.alloc (.cells (row32 G) 43) = q2 at hl0 hat2 ⊢
      have L0 := Lib.hid hl0
      have A2 := Lib.hid hat2
      clear hl0 hat2 AT hble
      go_loopw [21] (fun s21 wx => ∃ j : Nat, j ≤ 8 ∧ s21 = .int .i64 j ∧ wx.heap[bl]? = some (.cells (row32 (addP G hh j)) 43 (0, 0)) ∧ wx.heap[w.heap.size]? = some (.cells (row32 hh) 43 (0, 0)) ∧ wx.heap[w.heap.size + 1]? = some (.cells (Array.replicate 8 (.int .u32 0)) 43 (0, 0)) ∧ Below w.heap.size w wx) (fun s21 _ => 8 - (intOf s21).toNat)
      case atStart => exact ⟨0, by omega, rfl, by rw [addP_zero]; exact L0.out, A2.out.1, A2.out.2.1, A2.out.2.2.2.2.2⟩
      case round =>
        obtain ⟨j, hj, rfl, q0, q1, q2', q3⟩ := hrel
        clear L0 A2
        have Q0 := Lib.hid q0
        have Q1 := Lib.hid q1
        have Q2 := Lib.hid q2'
        have Q3 := Lib.hid q3
        clear q0 q1 q2' q3
        by_cases hlt : j < 8
        · have hlt' : (j : Int) < 8 := by omega
          have hc1 : wr.drew.cell? ⟨bl, j, none⟩ = some (.int .u32 ((G.getD j 0 : Nat) : Int)) := row32_cell Q0.out (addP_get OKG.out.1 OKH.out.1 hlt)
          have hc2 : wr.drew.cell? ⟨w.heap.size, j, none⟩ = some (.int .u32 ((hh.getD j 0 : Nat) : Int)) := row32_cell Q1.out (by rw [List.getD_eq_getElem?_getD, List.getElem?_eq_getElem (by rw [OKH.out.1]; exact hlt)]; rfl)
          have lx := OKG.out.getD j
          have ly := OKH.out.getD j
          have hset := addP_set OKG.out.1 OKH.out.1 hlt
          rw [← sumM2] at hset
          have HSE := Lib.hid hset
          clear hset
          generalize G.getD j 0 = x at *
          generalize hh.getD j 0 = y at *
          have hnew : (wr.alloc (.cells #[.int .u32 (x : Int), .int .u32 (y : Int)] 42)).drew.heap[wr.heap.size]? = some (.cells (row32 [x, y]) 42 (0, 0)) :=
            (heap_alloc_self wr (.cells #[.int .u32 (x : Int), .int .u32 (y : Int)] 42)).trans (by simp only [row32, List.map_cons, List.map_nil, w32])
          have HN := Lib.hid hnew
          have hrow2 : (wr.alloc (.cells #[.int .u32 (x : Int), .int .u32 (y : Int)] 42)).heap[bl]? = some (.cells (row32 (addP G hh j)) 43 (0, 0)) := (heap_alloc_lt _ _ (heap_lt Q0.out)).trans Q0.out
          obtain ⟨z, hzz⟩ : ∃ z, (addP G hh j)[j]? = some z := ⟨_, addP_get OKG.out.1 OKH.out.1 hlt⟩
          have hc3 : (wr.alloc (.cells #[.int .u32 (x : Int), .int .u32 (y : Int)] 42)).cell? ⟨bl, j, none⟩ = some (.int .u32 (z : Int)) := row32_cell hrow2 hzz
          have hf3 : (wr.alloc (.cells #[.int .u32 (x : Int), .int .u32 (y : Int)] 42)).frozen? ⟨bl, j, none⟩ = false := frozen_of_row _ _ _ _ _ hrow2
          have HR2 := Lib.hid hrow2
          clear hnew hrow2 hzz
          go_wp2_with fail
          go_region_with (go_at_call 34; refine (sum_words _ [x, y] (by simp) (by simp [lx, ly]) _ _ HN.out _ _ rfl).mono ?_; rintro e' w' ⟨rfl, rfl⟩)
          all_goals
            go_wp2
            go_roundw
            case measure => simp [intOf]; omega
            case rel =>
              have hbl' := hbl.out
              refine ⟨j + 1, by omega, by go_num, ?_, ?_, ?_, ?_⟩
              · show ((wr.alloc (.cells #[.int .u32 (x : Int), .int .u32 (y : Int)] 42)).setCell ⟨bl, j, none⟩ (.int .u32 (sumM [x, y] : Nat))).heap[bl]? = _
                rw [heap_setCell_same _ _ _ _ _ _ HR2.out, row32_set, HSE.out]
              · show ((wr.alloc (.cells #[.int .u32 (x : Int), .int .u32 (y : Int)] 42)).setCell ⟨bl, j, none⟩ (.int .u32 (sumM [x, y] : Nat))).heap[w.heap.size]? = _
                rw [heap_setCell_other _ _ _ _ (show w.heap.size ≠ bl by omega), heap_alloc_lt _ _ (heap_lt Q1.out)]; exact Q1.out
              · show ((wr.alloc (.cells #[.int .u32 (x : Int), .int .u32 (y : Int)] 42)).setCell ⟨bl, j, none⟩ (.int .u32 (sumM [x, y] : Nat))).heap[w.heap.size + 1]? = _
                rw [heap_setCell_other _ _ _ _ (show w.heap.size + 1 ≠ bl by omega), heap_alloc_lt _ _ (heap_lt Q2.out)]; exact Q2.out
              · exact ((Q3.out.alloc Q3.out.size _).setCell (show w.heap.size ≤ bl by omega) _).drew
        · obtain rfl : j = 8 := by omega
          have hlt' : ¬ (8 : Int) < 8 := by omega
          have hall : row32 (addP G hh 8) = row32 (addL hh G) := by rw [addP_all OKG.out.1 OKH.out.1, addL_comm]
          rw [hall] at Q0
          have hl8 := addL_length OKH.out.1 OKG.out.1
          have HL := Lib.hid hl8
          clear hall hl8 hlt
          go_wp2_with (first
            | refine wpList_load_row rfl 43 _ rfl bl rfl Q0.out Tryd.underlying43 (by rw [row32_size, HL.out]; exact zero8.2) ?_
            | refine wpList_store_row rfl 43 _ _ rfl (w.heap.size + 1) rfl rfl Q2.out (by rw [row32_size, HL.out]; exact zero8.2) (by rw [row32_size, HL.out]; simp) (row32_one _) ?_)
          refine bodyPost_ret (v := .agg (row32 (addL hh G))) ?_ rfl ⟨by rw [HGE.out], below_setRow Q3.out (by omega) _⟩
          exact results_cell_row rfl _ _ (w.heap.size + 1) _ _ (0, 0) _ rfl (setRow_heap _ _ _ _ _ _ Q2.out) Tryd.underlying43 rfl (by rw [row32_size, HL.out]; exact zero8.2)

theorem behind_ref (hh : List Nat) (hok : W32 8 hh) (bb at_ n cap : Nat) (B : List UInt8) (hB : B.length = 64) (w : World) (hblk : bb < w.heap.size) (hc : ∀ (j : Nat) (h : j < B.length), w.cell? ⟨bb, at_ + j, none⟩ = some (.int .u8 (B[j].toNat : Int))) (ha : at_ + 64 ≤ n) (hn : n ≤ 10000) :
    Calls Tryd.prog 28 #[.agg (row32 hh), .slice (some ⟨bb, 0, none⟩) n cap, .int .i64 at_] w fun e w' => e = .returned (.agg (row32 (blockL hh B))) ∧ Below w.heap.size w w' := by
  have hl := hok.1
  match hh, hl with
  | [h0, h1, h2, h3, h4, h5, h6, h7], _ => exact behind_eight h0 h1 h2 h3 h4 h5 h6 h7 hok bb at_ n cap B hB w hblk hc ha hn
end Go.Proofs.YtdaaemnfphagbaaDoor
