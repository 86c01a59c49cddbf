/-
  The statement ShaBlocks' text returns true: the hash is made block by block.
  Conditions: the table of constants reads as it was laid.
-/
import Derived.Test.YteaoeahpmpfgcaaDoorShaNames
set_option linter.unusedVariables false
set_option linter.unusedSimpArgs false
namespace Go.Proofs.YteaoeahpmpfgcaaDoor
open Go.RowKit

/-- What is kept ahead of the block where one stops. -/
def keptL (X : List UInt8) (stop n : Nat) : List Nat := if stop < n then hashTo X begin8 stop else List.replicate 8 0
theorem keptL_ok (X : List UInt8) (stop n : Nat) : W32 8 (keptL X stop n) := by
  unfold keptL
  split
  · exact hashTo_ok begin8_ok X stop
  · exact ⟨rfl, by decide⟩
/-- Where the words stand. -/
def BAt (w : World) (bf bh bk : Nat) (X : List UInt8) (h k : List Nat) (v : World) : Prop :=
  v.heap[bf]? = some (.cells (rowB X) 5 (0, 0)) ∧ v.heap[bh]? = some (.cells (row32 h) 28 (0, 0)) ∧
  v.heap[bk]? = some (.cells (row32 k) 28 (0, 0)) ∧ Below w.heap.size w v
theorem BAt.drew {w v : World} {bf bh bk : Nat} {X : List UInt8} {h k : List Nat} (a : BAt w bf bh bk X h k v) : BAt w bf bh bk X h k v.drew := ⟨a.1, a.2.1, a.2.2.1, a.2.2.2.drew⟩
theorem BAt.below {w v v' : World} {bf bh bk : Nat} {X : List UInt8} {h k : List Nat} (a : BAt w bf bh bk X h k v) (b : Below v.heap.size v v') : BAt w bf bh bk X h k v' :=
  ⟨(b.block _ (heap_lt a.1)).trans a.1, (b.block _ (heap_lt a.2.1)).trans a.2.1, (b.block _ (heap_lt a.2.2.1)).trans a.2.2.1, a.2.2.2.trans (b.mono a.2.2.2.size)⟩
theorem BAt.setH {w v : World} {bf bh bk : Nat} {X : List UInt8} {h k : List Nat} (a : BAt w bf bh bk X h k v) (h1 : bf ≠ bh) (h2 : bk ≠ bh) (h3 : w.heap.size ≤ bh) (h' : List Nat) : BAt w bf bh bk X h' k (v.setRow bh (row32 h')) :=
  ⟨by rw [setRow_other _ _ _ _ h1]; exact a.1, setRow_heap _ _ _ _ _ _ a.2.1, by rw [setRow_other _ _ _ _ h2]; exact a.2.2.1, below_setRow a.2.2.2 h3 _⟩
theorem BAt.setK {w v : World} {bf bh bk : Nat} {X : List UInt8} {h k : List Nat} (a : BAt w bf bh bk X h k v) (h1 : bf ≠ bk) (h2 : bh ≠ bk) (h3 : w.heap.size ≤ bk) (k' : List Nat) : BAt w bf bh bk X h k' (v.setRow bk (row32 k')) :=
  ⟨by rw [setRow_other _ _ _ _ h1]; exact a.1, by rw [setRow_other _ _ _ _ h2]; exact a.2.1, setRow_heap _ _ _ _ _ _ a.2.2.1, below_setRow a.2.2.2 h3 _⟩

theorem blocks_off (v0 : Value) (xs : List UInt8) (t : Int) (w : World) (hT : Tab w) (h0 : Txt w w.heap.size v0 xs) (h : 3000 < xs.length) :
    Calls Tryd.prog 5 #[v0, .int .u8 t] w fun e w' => e = .returned (.bool true) ∧ Below w.heap.size w w' := by
  obtain ⟨A0, cap0, rfl, -, -, -, -⟩ := h0
  have HT := Lib.hid hT
  have g1' : decide ((3000 : Int) < xs.length) = true := decide_eq_true (by omega)
  clear hT
  go_enter Tryd.func5, Tryd.ntmps5
  go_wp2_with fail
  refine (alive_true _ HT.out).mono ?_
  rintro e w1 ⟨rfl, b⟩
  have B1 := Lib.hid b
  clear b
  go_wp2
  go_ret
  exact ⟨rfl, B1.out⟩

set_option maxHeartbeats 2000000 in
theorem blocks_all (v0 : Value) (xs : List UInt8) (stop : Nat) (w : World) (hT : Tab w) (h0 : Txt w w.heap.size v0 xs) (hl : xs.length ≤ 3000) (hs : stop < 256) :
    Calls Tryd.prog 5 #[v0, .int .u8 stop] w fun e w' => e = .returned (.bool true) ∧ Below w.heap.size w w' := by
  have hz8 := zero8.1
  have HT := Lib.hid hT
  have H0 := Lib.hid h0
  have g1' : decide ((3000 : Int) < xs.length) = false := decide_eq_false (by omega)
  have hs' : (stop : Int) < 256 := by omega
  obtain ⟨A0, cap0, rfl, -, -, -, -⟩ := h0
  clear hT
  go_enter Tryd.func5, Tryd.ntmps5
  go_wp2_with fail
  refine (alive_true _ HT.out).mono ?_
  rintro e w1 ⟨rfl, b⟩
  have B1 := Lib.hid b
  clear b
  go_wp2_with fail
  refine (filled_any _ xs (by omega) _ ((H0.out.below B1.out).more B1.out.size)).mono ?_
  rintro e w2 ⟨rfl, hf, b⟩
  have B2 := Lib.hid (B1.out.trans (b.mono B1.out.size))
  have FX := Lib.hid hf
  obtain ⟨bf, hbf⟩ : ∃ bf, bf = w1.heap.size := ⟨_, rfl⟩
  have GF : Hid (w.heap.size ≤ bf) := Lib.hid (by rw [hbf]; exact B1.out.size)
  rw [← hbf] at FX ⊢
  have hlen := fill_length xs
  obtain ⟨X, hX⟩ : ∃ X, X = fill xs := ⟨_, rfl⟩
  obtain ⟨N, hN⟩ : ∃ N, N = (xs.length + 8) / 64 + 1 := ⟨_, rfl⟩
  have hsum : sumL xs = told32 (hashTo X begin8 N) := by rw [hX, hN]; rfl
  rw [← hX, ← hN] at hlen
  rw [← hX] at FX
  rw [← hX, hlen]
  have SUM := Lib.hid hsum
  have LEN := Lib.hid hlen
  have NB : Hid (1 ≤ N ∧ N ≤ 100) := Lib.hid (by omega)
  have hmod : (((64 * N : Nat) : Int)) % 64 = 0 := by omega
  clear hsum hlen hX hN b hf hbf B1
  obtain ⟨M, hM⟩ : ∃ M, M = 64 * N := ⟨_, rfl⟩
  rw [← hM] at hmod ⊢
  have HM := Lib.hid hM
  clear hM
  have hM2 : (M : Int) ≤ 6400 := by have := HM.out; have := NB.out; omega
  have hmt : (M : Int).tmod 64 = 0 := by rw [Int.tmod_eq_emod_of_nonneg (by omega)]; exact hmod
  clear w1
  go_wp2_with fail
  refine (begun_any _).mono ?_
  rintro e w3 ⟨rfl, b⟩
  have B3 := Lib.hid (B2.out.trans (b.mono B2.out.size))
  have FX3 := Lib.hid ((b.block _ (heap_lt FX.out)).trans FX.out)
  have GF3 : Hid (bf < w3.heap.size) := Lib.hid (heap_lt FX3.out)
  clear b FX B2 hmod hmt
  clear w2
  go_wp2_with (refine wpList_store_row rfl 28 _ _ rfl w3.heap.size rfl rfl (heap_alloc_self _ _) zero8.2 (by simp [row32_size, begin8]) (row32_one _) ?_; rw [World.setRow_alloc_new])
  have hv : BAt w bf w3.heap.size (w3.heap.size + 1) X (hashTo X begin8 0) (keptL X stop 0) ((w3.alloc (.cells (row32 begin8) 28)).alloc (.cells (Array.replicate 8 (.int .u32 0)) 28)) := by
    have g := GF3.out
    refine ⟨?_, ?_, ?_, (B3.out.alloc B3.out.size _).alloc (B3.out.alloc B3.out.size _).size _⟩
    · rw [heap_alloc_lt _ _ (by rw [heap_alloc_size]; omega), heap_alloc_lt _ _ (by omega)]; exact FX3.out
    · rw [heap_alloc_lt _ _ (by rw [heap_alloc_size]; omega)]; exact heap_alloc_self _ _
    · have := heap_alloc_self (w3.alloc (.cells (row32 begin8) 28)) (.cells (Array.replicate 8 (.int .u32 0)) 28)
      rw [heap_alloc_size] at this
      rw [this, keptL, if_neg (by omega), row32_zero]
  generalize (w3.alloc (.cells (row32 begin8) 28)).alloc (.cells (Array.replicate 8 (.int .u32 0)) 28) = q at hv ⊢
  have HV := Lib.hid hv
  have GB : Hid (w.heap.size ≤ w3.heap.size) := Lib.hid B3.out.size
  clear hv B3 FX3
  obtain ⟨bh, hbh⟩ : ∃ bh, bh = w3.heap.size := ⟨_, rfl⟩
  rw [← hbh] at HV GB GF3 ⊢
  clear hbh
  clear w3
  go_loopw [9] (fun s9 wr => ∃ n : Nat, n ≤ N ∧ s9 = .int .i64 ((64 * n : Nat) : Int) ∧ BAt w bf bh (bh + 1) X (hashTo X begin8 n) (keptL X stop n) wr) (fun s9 _ => 6400 - (intOf s9).toNat)
  case atStart => exact ⟨0, by omega, rfl, HV.out⟩
  case round =>
    obtain ⟨n, hn, rfl, hat⟩ := hrel
    have AT := Lib.hid hat
    clear hat HV
    obtain ⟨P, hP⟩ : ∃ P, P = 64 * n := ⟨_, rfl⟩
    rw [← hP]
    have HP := Lib.hid hP
    by_cases hlt : n < N
    · have hPM : (P : Int) + 64 ≤ M := by have := HM.out; omega
      have hP0 : (P : Int) < M := by omega
      have hdiv : (P : Int) / 64 = n := by omega
      have hst : (n : Int) < 100 := by have := NB.out; omega
      clear hP
      have HN := Lib.hid hn
      clear hn
      by_cases hstop : n = stop
      · have he : ((n : Int) == (stop : Int)) = true := by simp [hstop]
        have OKN := Lib.hid (hashTo_ok begin8_ok X n)
        have OKK := Lib.hid (keptL_ok X stop n)
        go_wp2_with (first
          | refine wpList_load_row rfl 28 _ rfl bh rfl AT.out.2.1 Tryd.underlying28 (by rw [row32_size, OKN.out.1]; exact zero8.2) ?_
          | refine wpList_store_row rfl 28 _ _ rfl (bh + 1) rfl rfl AT.out.2.2.1 (by rw [row32_size, OKN.out.1]; exact zero8.2) (by rw [row32_size, row32_size, OKN.out.1, OKK.out.1]) (row32_one _) ?_)
        have hm : BAt w bf bh (bh + 1) X (hashTo X begin8 n) (keptL X stop (n + 1)) (wr.setRow (bh + 1) (row32 (hashTo X begin8 n))) := by
          have hk : keptL X stop (n + 1) = hashTo X begin8 n := by rw [keptL, if_pos (by omega), hstop]
          rw [hk]
          have := GF3.out
          exact AT.out.setK (by omega) (by omega) (by have := GB.out; omega) _
        generalize wr.setRow (bh + 1) (row32 (hashTo X begin8 n)) = v at hm ⊢
        have HM2 := Lib.hid hm
        clear hm AT hstop he
        simp only [Act.put, List.setIfInBounds_toArray, List.set_cons_zero, List.set_cons_succ]
        have hd := HM2.out.drew
        refine wp_region_still_tail 8 (by kernel_rfl) (by kernel_rfl) ?_
        change wpStill _ _ (World.drew v) (fun a' => wpList _ _ _ _ a' (World.drew v)) _ _
        generalize World.drew v = u at hd ⊢
        have HD := Lib.hid hd
        have OKN := Lib.hid (hashTo_ok begin8_ok X n)
        have hload := run_load_row HD.out.2.1 Tryd.underlying28 (by rw [row32_size, OKN.out.1]; exact zero8.2)
        simp only [List.take_succ_cons, List.take_zero, List.drop_succ_cons, List.drop_zero]
        refine wpStill_load_row rfl 28 _ rfl bh rfl hload ?_
        simp only [Act.put, List.setIfInBounds_toArray, List.set_cons_zero, List.set_cons_succ]
        clear hload hd HM2
        have harr := run_arrayAt
        have hne : ¬ M = P := by omega
        obtain ⟨Q, hQ⟩ : ∃ Q, Q = P + 64 := ⟨_, rfl⟩
        have hQw : IntKind.i64.wrap ((P : Int) + 64) = Q := by rw [IntWalk.i64_in _ (by omega)]; omega
        have hQP : Q - P = 64 := by omega
        have hQM : (Q : Int) ≤ M := by omega
        have hPQ : P ≤ Q := by omega
        clear hQ
        still_step
        still_step
        still_step
        still_step
        still_step
        still_step
        clear harr hne hQw hQP hQM hPQ
        refine wpStill_load_mid rfl 29 _ rfl bf P rfl (run_load_block HD.out.1 (by have := LEN.out; have := HM.out; omega)) ?_
        simp only [Act.put, List.setIfInBounds_toArray, List.set_cons_zero, List.set_cons_succ]
        refine wpStill_nil ?_
        go_wp2_with fail
        refine (block_any _ OKN.out _ (by rw [List.length_take, List.length_drop]; have := LEN.out; have := HM.out; omega) _ (HT.out.below HD.out.2.2.2 HT.out.pos)).mono ?_
        rintro e w4 ⟨rfl, b⟩
        have hu := HD.out.below b
        have OK1 := Lib.hid (hashTo_ok begin8_ok X (n + 1))
        have hst : blockL (hashTo X begin8 n) ((X.drop P).take 64) = hashTo X begin8 (n + 1) := by rw [HP.out]; rfl
        rw [hst]
        have HU := Lib.hid hu
        clear hu b hst HD
        go_wp2_with (refine wpList_store_row rfl 28 _ _ rfl bh rfl rfl HU.out.2.1 (by rw [row32_size, OK1.out.1]; exact zero8.2) (by rw [row32_size, row32_size, OK1.out.1, OKN.out.1]) (row32_one _) ?_)
        go_roundw
        case measure => simp [intOf]; omega
        case rel =>
          have g := GF3.out
          exact ⟨n + 1, by omega, by rw [show ((64 * (n + 1) : Nat) : Int) = (P : Int) + 64 by have := HP.out; omega], HU.out.setH (by omega) (by omega) (by have := GB.out; omega) _⟩
      · have he : ((n : Int) == (stop : Int)) = false := by simpa using (fun e : (n : Int) = (stop : Int) => hstop (by omega))
        go_wp2
        have hm : BAt w bf bh (bh + 1) X (hashTo X begin8 n) (keptL X stop (n + 1)) wr := by
          have hk : keptL X stop (n + 1) = keptL X stop n := by
            unfold keptL
            by_cases h : stop < n
            · rw [if_pos h, if_pos (by omega)]
            · rw [if_neg h, if_neg (by omega)]
          rw [hk]
          exact AT.out
        generalize wr = v at hm ⊢
        have HM2 := Lib.hid hm
        clear hm AT hstop he
        have hd := HM2.out.drew
        refine wp_region_still_tail 8 (by kernel_rfl) (by kernel_rfl) ?_
        change wpStill _ _ (World.drew v) (fun a' => wpList _ _ _ _ a' (World.drew v)) _ _
        generalize World.drew v = u at hd ⊢
        have HD := Lib.hid hd
        have OKN := Lib.hid (hashTo_ok begin8_ok X n)
        have hload := run_load_row HD.out.2.1 Tryd.underlying28 (by rw [row32_size, OKN.out.1]; exact zero8.2)
        simp only [List.take_succ_cons, List.take_zero, List.drop_succ_cons, List.drop_zero]
        refine wpStill_load_row rfl 28 _ rfl bh rfl hload ?_
        simp only [Act.put, List.setIfInBounds_toArray, List.set_cons_zero, List.set_cons_succ]
        clear hload hd HM2
        have harr := run_arrayAt
        have hne : ¬ M = P := by omega
        obtain ⟨Q, hQ⟩ : ∃ Q, Q = P + 64 := ⟨_, rfl⟩
        have hQw : IntKind.i64.wrap ((P : Int) + 64) = Q := by rw [IntWalk.i64_in _ (by omega)]; omega
        have hQP : Q - P = 64 := by omega
        have hQM : (Q : Int) ≤ M := by omega
        have hPQ : P ≤ Q := by omega
        clear hQ
        still_step
        still_step
        still_step
        still_step
        still_step
        still_step
        clear harr hne hQw hQP hQM hPQ
        refine wpStill_load_mid rfl 29 _ rfl bf P rfl (run_load_block HD.out.1 (by have := LEN.out; have := HM.out; omega)) ?_
        simp only [Act.put, List.setIfInBounds_toArray, List.set_cons_zero, List.set_cons_succ]
        refine wpStill_nil ?_
        go_wp2_with fail
        refine (block_any _ OKN.out _ (by rw [List.length_take, List.length_drop]; have := LEN.out; have := HM.out; omega) _ (HT.out.below HD.out.2.2.2 HT.out.pos)).mono ?_
        rintro e w4 ⟨rfl, b⟩
        have hu := HD.out.below b
        have OK1 := Lib.hid (hashTo_ok begin8_ok X (n + 1))
        have hst : blockL (hashTo X begin8 n) ((X.drop P).take 64) = hashTo X begin8 (n + 1) := by rw [HP.out]; rfl
        rw [hst]
        have HU := Lib.hid hu
        clear hu b hst HD
        go_wp2_with (refine wpList_store_row rfl 28 _ _ rfl bh rfl rfl HU.out.2.1 (by rw [row32_size, OK1.out.1]; exact zero8.2) (by rw [row32_size, row32_size, OK1.out.1, OKN.out.1]) (row32_one _) ?_)
        go_roundw
        case measure => simp [intOf]; omega
        case rel =>
          have g := GF3.out
          exact ⟨n + 1, by omega, by rw [show ((64 * (n + 1) : Nat) : Int) = (P : Int) + 64 by have := HP.out; omega], HU.out.setH (by omega) (by omega) (by have := GB.out; omega) _⟩
    · obtain rfl : n = N := by omega
      have hPM : P = M := by have := HM.out; omega
      have hlt' : ¬ (M : Int) < M := by omega
      rw [hPM]
      obtain ⟨H, hH⟩ : ∃ H, H = hashTo X begin8 n := ⟨_, rfl⟩
      have OKH : Hid (W32 8 H) := Lib.hid (by rw [hH]; exact hashTo_ok begin8_ok X n)
      have hat := AT.out
      have hsum := SUM.out
      rw [← hH] at hat hsum
      have HA := Lib.hid hat
      have HSUM := Lib.hid hsum
      have HEQ := Lib.hid hH
      clear hH hat hsum AT SUM hlt hP hPM HP
      go_wp2_with (refine wpList_load_row rfl 28 _ rfl bh rfl HA.out.2.1 Tryd.underlying28 (by rw [row32_size, OKH.out.1]; exact zero8.2) ?_)
      refine (told_any H OKH.out _).mono ?_
      rintro e w4 ⟨rfl, b⟩
      have HA4 := Lib.hid (HA.out.below b)
      clear b HA
      go_wp2_with fail
      refine (sum_any _ xs (by omega) _ (HT.out.below HA4.out.2.2.2 HT.out.pos) ((H0.out.below HA4.out.2.2.2).more HA4.out.2.2.2.size)).mono ?_
      rintro e w5 ⟨rfl, b⟩
      rw [HSUM.out]
      have HA5 := Lib.hid (HA4.out.below b)
      clear b HA4
      clear w4
      have hsame := same32 (told32 H) (told32_length H)
      by_cases hbig : M ≤ 64 * stop
      · have hb : (M : Int) ≤ 64 * (stop : Int) := by omega
        go_wp2
        go_ret
        exact ⟨rfl, HA5.out.2.2.2⟩
      · have hb : ¬ (M : Int) ≤ 64 * (stop : Int) := by omega
        have hb' : decide ((M : Int) ≤ 64 * (stop : Int)) = false := decide_eq_false hb
        go_wp2_with fail
        clear hsame
        have hk0 : keptL X stop n = hashTo X begin8 stop := by rw [keptL, if_pos (by have := HM.out; omega)]
        have hat := HA5.out
        rw [hk0] at hat
        have HS := Lib.hid hat
        have LT : Hid (stop ≤ n) := Lib.hid (by have := HM.out; omega)
        clear hat hk0 HA5
        go_loopw [10] (fun s10 wx => ∃ m : Nat, m ≤ n ∧ s10 = .int .i64 ((64 * m : Nat) : Int) ∧ BAt w bf bh (bh + 1) X H (hashTo X begin8 m) wx) (fun s10 _ => 6400 - (intOf s10).toNat)
        case atStart => exact ⟨stop, LT.out, rfl, HS.out⟩
        case round =>
          obtain ⟨m, hm, rfl, hat⟩ := hrel
          have AT := Lib.hid hat
          clear hat HS
          obtain ⟨P, hP⟩ : ∃ P, P = 64 * m := ⟨_, rfl⟩
          rw [← hP]
          have HP := Lib.hid hP
          have OKN := Lib.hid (hashTo_ok begin8_ok X m)
          by_cases hlt : m < n
          · have hPM : (P : Int) + 64 ≤ M := by have := HM.out; omega
            have hP0 : (P : Int) < M := by omega
            clear hP
            go_wp2
            have hd := AT.out.drew
            refine wp_region_still_tail 8 (by kernel_rfl) (by kernel_rfl) ?_
            change wpStill _ _ (World.drew wr) (fun a' => wpList _ _ _ _ a' (World.drew wr)) _ _
            generalize World.drew wr = u at hd ⊢
            have HD := Lib.hid hd
            have hload := run_load_row HD.out.2.2.1 Tryd.underlying28 (by rw [row32_size, OKN.out.1]; exact zero8.2)
            simp only [List.take_succ_cons, List.take_zero, List.drop_succ_cons, List.drop_zero]
            refine wpStill_load_row rfl 28 _ rfl (bh + 1) rfl hload ?_
            simp only [Act.put, List.setIfInBounds_toArray, List.set_cons_zero, List.set_cons_succ]
            clear hload hd
            have harr := run_arrayAt
            have hne : ¬ M = P := by omega
            obtain ⟨Q, hQ⟩ : ∃ Q, Q = P + 64 := ⟨_, rfl⟩
            have hQw : IntKind.i64.wrap ((P : Int) + 64) = Q := by rw [IntWalk.i64_in _ (by omega)]; omega
            have hQP : Q - P = 64 := by omega
            have hQM : (Q : Int) ≤ M := by omega
            have hPQ : P ≤ Q := by omega
            clear hQ
            still_step
            still_step
            still_step
            still_step
            still_step
            still_step
            clear harr hne hQw hQP hQM hPQ
            refine wpStill_load_mid rfl 29 _ rfl bf P rfl (run_load_block HD.out.1 (by have := LEN.out; have := HM.out; omega)) ?_
            simp only [Act.put, List.setIfInBounds_toArray, List.set_cons_zero, List.set_cons_succ]
            refine wpStill_nil ?_
            go_wp2_with fail
            refine (block_any _ OKN.out _ (by rw [List.length_take, List.length_drop]; have := LEN.out; have := HM.out; omega) _ (HT.out.below HD.out.2.2.2 HT.out.pos)).mono ?_
            rintro e w6 ⟨rfl, b⟩
            have hu := HD.out.below b
            have OK1 := Lib.hid (hashTo_ok begin8_ok X (m + 1))
            have hst : blockL (hashTo X begin8 m) ((X.drop P).take 64) = hashTo X begin8 (m + 1) := by rw [HP.out]; rfl
            rw [hst]
            have HU := Lib.hid hu
            clear hu b hst HD
            go_wp2_with (refine wpList_store_row rfl 28 _ _ rfl (bh + 1) rfl rfl HU.out.2.2.1 (by rw [row32_size, OK1.out.1]; exact zero8.2) (by rw [row32_size, row32_size, OK1.out.1, OKN.out.1]) (row32_one _) ?_)
            go_roundw
            case measure => simp [intOf]; omega
            case rel =>
              have g := GF3.out
              exact ⟨m + 1, by omega, by rw [show ((64 * (m + 1) : Nat) : Int) = (P : Int) + 64 by have := HP.out; omega], HU.out.setK (by omega) (by omega) (by have := GB.out; omega) _⟩
          · obtain rfl : m = n := by omega
            have hPM : P = M := by have := HM.out; omega
            rw [hPM]
            rw [← HEQ.out] at AT
            have hs := same8 H OKH.out.1
            clear hP hPM hlt
            go_wp2_with (first
              | refine wpList_load_row rfl 28 _ rfl (bh + 1) rfl AT.out.2.2.1 Tryd.underlying28 (by rw [row32_size, OKH.out.1]; exact zero8.2) ?_
              | refine wpList_load_row rfl 28 _ rfl bh rfl AT.out.2.1 Tryd.underlying28 (by rw [row32_size, OKH.out.1]; exact zero8.2) ?_)
            go_ret
            exact ⟨rfl, AT.out.2.2.2⟩

theorem walk_blocks (v0 : Value) (xs : List UInt8) (t : Int) (w : World) (hT : Tab w) (h0 : Txt w w.heap.size v0 xs) (ht : 0 ≤ t ∧ t ≤ 255) :
    Calls Tryd.prog 5 #[v0, .int .u8 t] w fun e w' => e = .returned (.bool true) ∧ Below w.heap.size w w' := by
  by_cases h : 3000 < xs.length
  · exact blocks_off v0 xs t w hT h0 h
  · obtain ⟨s, rfl⟩ : ∃ n : Nat, t = n := ⟨t.toNat, by omega⟩
    exact blocks_all v0 xs s w hT h0 (by omega) (by omega)
end Go.Proofs.YteaoeahpmpfgcaaDoor
