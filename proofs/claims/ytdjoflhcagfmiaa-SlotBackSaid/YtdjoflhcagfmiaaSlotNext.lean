/-
  The generation behind another one, as the program tells it.
  Conditions: none.
-/
import Derived.Test.YtdjoflhcagfmiaaSlotSeen
import Derived.Test.YtdjoflhcagfmiaaSlotPutM
import Derived.Laws.Cover1
import Derived.Test.YtdjoflhcagfmiaaSlotWhole
set_option linter.unusedVariables false
set_option linter.unusedSimpArgs false
set_option maxRecDepth 100000
namespace Go.Proofs.Ytdjoflhcagfmiaa
open Go.RowKit

def mostL (m : Nat) (S : List Bs) : Nat := S.foldl (fun m s => max (max m (headG s)) (tailG s)) m
theorem mostL_snoc (m : Nat) (S : List Bs) (s : Bs) : mostL m (S ++ [s]) = max (max (mostL m S) (headG s)) (tailG s) := by simp [mostL, List.foldl_append]
def otherS (V : List Bs) (g : Nat) : List Bs := (V.drop (16 - slotN g)).take 16
/-- The generation behind g, if there were no greatest one. -/
def nextN (V : List Bs) (g : Nat) : Nat := if (mostL g (otherS V g) + 1) % 2 = g % 2 then mostL g (otherS V g) + 2 else mostL g (otherS V g) + 1
def nextE (ss : List Bs) (ws : List Wr) (g : Nat) : Int := if mayB ss ws then (if 4294967295 < nextN (comes ss ws (all128 ws)) g then 9 else 0) else 8
def nextG (ss : List Bs) (ws : List Wr) (g : Nat) : Nat := if nextE ss ws g = 0 then nextN (comes ss ws (all128 ws)) g else 0
theorem headG_lt (s : Bs) : headG s < 4294967296 := by
  have h := leN_lt (s.take 4)
  have h4 : (s.take 4).length ≤ 4 := by rw [List.length_take]; omega
  have := Nat.pow_le_pow_right (n := 256) (by omega) h4
  rw [headG]; omega
theorem tailG_lt {s : Bs} (h128 : s.length = 128) : tailG s < 4294967296 := by
  have h := leN_lt (s.drop 124)
  have h4 : (s.drop 124).length ≤ 4 := by rw [List.length_drop]; omega
  have := Nat.pow_le_pow_right (n := 256) (by omega) h4
  rw [tailG]; omega
theorem mostL_lt : ∀ (S : List Bs) (m : Nat), m < 4294967296 → (∀ s ∈ S, s.length = 128) → mostL m S < 4294967296
  | [], m, h, _ => h
  | s :: S, m, h, h128 => mostL_lt S _ (by show max (max m (headG s)) (tailG s) < _; have := headG_lt s; have := tailG_lt (h128 s (by simp)); omega) (fun x hx => h128 x (by simp [hx]))

theorem max3 (ts : Array TypeId) (ty : TypeId) (a b c : Nat) (w : World) : (Builtin.max_ ts ty #[.int .u32 (a : Int), .int .u32 (b : Int), .int .u32 (c : Int)]).run Try.prog w = .ok (.int .u32 ((max (max a b) c : Nat) : Int)) w := by
  rw [run_max_int3]
  congr 2
  split <;> split at * <;> omega

set_option maxHeartbeats 4000000 in
theorem snext_any (d : Value) (ss : List Bs) (ws : List Wr) (g : Nat) (hg : g < 4294967296) (w : World) (h : DiskIn w w.heap.size d ss ws) :
    Calls Try.prog 12 #[d, .int .u32 (g : Int)] w fun e w' => e = .returned (.tuple #[.int .u32 (nextG ss ws g : Nat), .int .i64 (nextE ss ws g)]) ∧ Below w.heap.size w w' := by
  obtain ⟨v1, v2, rfl, h1, h2⟩ := id h
  have H := Lib.hid h
  have HG := Lib.hid hg
  have qb := below_new w (.cells #[v1, v2] 29)
  have q0 := heap_alloc_self w (.cells #[v1, v2] 29)
  clear h1 h2 h hg
  go_enter Try.func12, Try.ntmps12
  go_wp2_with fail
  generalize w.alloc (.cells #[v1, v2] 29) = q at q0 qb ⊢
  have QB := Lib.hid qb
  refine (sseen_any _ ss ws q ((H.out.below QB.out).more QB.out.size)).mono ?_
  rintro e w1 ⟨y1, rfl, hs, b1⟩
  obtain ⟨A2, c2, rfl⟩ := secs_slice hs
  have B1 := Lib.hid (QB.out.trans (b1.mono QB.out.size))
  have S1 := Lib.hid hs.in_
  clear hs b1 q0 qb
  cases hm : mayB ss ws with
  | false =>
    have hE : syncE ss ws = 8 := by rw [syncE, hm]; rfl
    have hN : nextE ss ws g = 8 := by rw [nextE, hm]; rfl
    have hN2 : nextG ss ws g = 0 := by rw [nextG, hN]; rfl
    rw [hE]
    have HN := Lib.hid hN
    have HN2 := Lib.hid hN2
    clear hm hE hN hN2
    go_wp2_with fail
    refine bodyPost_ret (results_tmp2 rfl _ _ _) rfl ?_
    exact ⟨by rw [HN.out, HN2.out]; rfl, B1.out⟩
  | true =>
    have hM := mayB_iff.1 hm
    have hE : syncE ss ws = 0 := by rw [syncE, hm]; rfl
    have hS : syncS ss ws = comes ss ws (all128 ws) := by rw [syncS, hm]; rfl
    have hC := may_comes hM (all128 ws)
    obtain ⟨V, hV⟩ : ∃ V, V = comes ss ws (all128 ws) := ⟨_, rfl⟩
    have hNE : nextE ss ws g = if 4294967295 < nextN V g then 9 else 0 := by rw [nextE, hm, if_pos rfl, hV]
    have hNG : nextG ss ws g = if nextE ss ws g = 0 then nextN V g else 0 := by rw [nextG, hV]
    rw [← hV] at hC hS
    rw [hE]
    rw [hS] at S1 ⊢
    rw [hC.n] at S1 ⊢
    obtain ⟨k, hk⟩ : ∃ k, k = 16 - slotN g := ⟨_, rfl⟩
    have hs16 := slotN_cases g
    have hk01 : k = 0 ∨ k = 16 := by omega
    obtain ⟨b, off, rfl, hcap, hmx, hsub⟩ := S1.out.mid (k := k) (m := 16) (by omega) (by rw [hC.n]; omega)
    rw [hC.n] at hcap
    obtain ⟨S, hS0⟩ : ∃ S, S = otherS V g := ⟨_, rfl⟩
    have hSe : (V.drop k).take 16 = S := by rw [hS0, otherS, hk]
    rw [hSe] at hsub
    have hSl : S.length = 16 := by rw [← hSe, List.length_take, List.length_drop, hC.n]; omega
    have hS128 : ∀ s ∈ S, s.length = 128 := fun s hs => hC.s s (by rw [← hSe] at hs; exact List.mem_of_mem_drop (List.mem_of_mem_take hs))
    have hkI : (16 : Int) - (slotN g : Nat) = k := by omega
    have hk1 : (k : Int) + 16 ≤ c2 := by omega
    have hk2 : (0 : Int) ≤ k := by omega
    have hk3 : k ≤ 16 := by omega
    have hk4 : ¬ c2 = k := by omega
    have SU := Lib.hid hsub
    have SL := Lib.hid hSl
    have S128 := Lib.hid hS128
    have HSE := Lib.hid hS0
    have HK := Lib.hid hk
    have HC := Lib.hid hC
    have HNE := Lib.hid hNE
    have HNG := Lib.hid hNG
    clear hm hM hE hS hV hC hNE hNG hk hs16 hk01 hcap hmx hsub hS0 hSe hSl hS128
    go_wp2_with (refine (sslot_any g _).mono ?_; rintro e w' ⟨rfl, rfl⟩)
    simp only [Nat.add_sub_cancel_left]
    go_loopw [8, 31] (fun s8 s31 wr => ∃ i : Nat, i ≤ 16 ∧ s8 = .int .u32 ((mostL g (S.take i) : Nat) : Int) ∧ s31 = .int .i64 i ∧ Below w1.heap.size w1 wr) (fun _ s31 _ => 16 - (intOf s31).toNat)
    case atStart => exact ⟨0, by omega, rfl, rfl, Below.refl _ _⟩
    case round =>
      obtain ⟨i, hi, rfl, rfl, hb⟩ := hrel
      have HB := Lib.hid hb
      clear hb
      by_cases hlt : i < 16
      · have hlt' : (i : Int) < 16 := by omega
        have hiS : i < S.length := by rw [SL.out]; exact hlt
        obtain ⟨b', o', u6, e6, hsb, hcu, htu⟩ := SU.out.at hiS
        cases e6
        have hs128 : S[i].length = 128 := S128.out _ (List.getElem_mem hiS)
        have hcw := (HB.out.cell (p := ⟨b, off + k + i, none⟩) (cell_lt hcu)).trans hcu
        have hsn : mostL g (S.take (i + 1)) = max (max (mostL g (S.take i)) (headG S[i])) (tailG S[i]) := by
          rw [List.take_add_one, List.getElem?_eq_getElem hiS, Option.toList_some, mostL_snoc]
        have HTU := Lib.hid ((htu.below HB.out).more HB.out.size)
        have HSN := Lib.hid hsn
        generalize S[i] = sc at hs128 HTU HSN htu
        obtain ⟨A6, c6, rfl, hc6, -, -, -⟩ := htu
        rw [hs128] at hcw HTU hc6
        have hc64 : (4 : Int) ≤ c6 := by omega
        have hc6n : ¬ c6 = 124 := by omega
        have HS128 := Lib.hid hs128
        have ht4 : Txt wr wr.heap.size (.slice A6 4 c6) (sc.take 4) := by
          have h := HTU.out
          rw [← hs128] at h
          exact h.cut (by omega)
        have ht124 : ∃ b6 o6, A6 = some ⟨b6, o6, none⟩ ∧ Txt wr wr.heap.size (.slice (some ⟨b6, o6 + 124, none⟩) 4 (c6 - 124)) (sc.drop 124) := by
          have h := HTU.out
          rw [← hs128] at h
          obtain ⟨b6, o6, e6, _, h6⟩ := h.sub (k := 124) (L := 4) (by omega) (by omega)
          rw [List.take_of_length_le (by rw [List.length_drop, hs128]; omega)] at h6
          exact ⟨b6, o6, e6, h6⟩
        obtain ⟨b6, o6, rfl, ht124⟩ := ht124
        have hmax := max3 #[33, 33, 33] 33 (mostL g (S.take i)) (leN (sc.take 4)) (leN (sc.drop 124))
        have HT4 := Lib.hid ht4
        have HT124 := Lib.hid ht124
        generalize mostL g (S.take i) = M at HSN hmax ⊢
        clear hcu hsn hiS hs128 ht4 ht124
        go_wp2_with fail
        refine wp_region_held_drew (S := fun _ => True) (by kernel_rfl) trivial (fun hHeld => ?_)
        refine wpAnyH_take (i := 0) (v := ?_) rfl (by kernel_rfl) (by kernel_rfl) (by kernel_rfl) (fun _ _ _ h => h) (Or.inl ⟨by rfl, ?_⟩) hHeld ?_
        rotate_left
        · intro w' hSw; go_simp; try with_reducible rfl
        simp only [List.getElem_toArray, List.getElem_cons_succ, List.getElem_cons_zero, Act.put, List.setIfInBounds_toArray, List.set_cons_zero, List.set_cons_succ]
        refine wpAnyH_take (i := 1) (v := ?_) rfl (by kernel_rfl) (by kernel_rfl) (by kernel_rfl) (fun _ _ _ h => h) (Or.inl ⟨by rfl, ?_⟩) hHeld ?_
        rotate_left
        · intro w' hSw; go_simp; try with_reducible rfl
        simp only [List.getElem_toArray, List.getElem_cons_succ, List.getElem_cons_zero, Act.put, List.setIfInBounds_toArray, List.set_cons_zero, List.set_cons_succ]
        refine wpAnyH_take (i := 2) (v := ?_) rfl (by kernel_rfl) (by kernel_rfl) (by kernel_rfl) (fun _ _ _ h => h) (Or.inl ⟨by rfl, ?_⟩) hHeld ?_
        rotate_left
        · intro w' hSw; go_simp; try with_reducible rfl
        simp only [List.getElem_toArray, List.getElem_cons_succ, List.getElem_cons_zero, Act.put, List.setIfInBounds_toArray, List.set_cons_zero, List.set_cons_succ]
        refine wpAnyH_take (i := 4) (v := ?_) rfl (by kernel_rfl) (by kernel_rfl) (by kernel_rfl) (fun _ _ _ h => h) (Or.inl ⟨by rfl, ?_⟩) hHeld ?_
        rotate_left
        · intro w' hSw; go_simp; try with_reducible rfl
        simp only [List.getElem_toArray, List.getElem_cons_succ, List.getElem_cons_zero, Act.put, List.setIfInBounds_toArray, List.set_cons_zero, List.set_cons_succ]
        refine wpAnyH_take (i := 5) (v := ?_) rfl (by kernel_rfl) (by kernel_rfl) (by kernel_rfl) (fun _ _ _ h => h) (Or.inl ⟨by rfl, ?_⟩) hHeld ?_
        rotate_left
        · intro w' hSw; go_simp; try with_reducible rfl
        simp only [List.getElem_toArray, List.getElem_cons_succ, List.getElem_cons_zero, Act.put, List.setIfInBounds_toArray, List.set_cons_zero, List.set_cons_succ]
        refine wpAnyH_ready (rs := [3]) (by kernel_rfl) (by simp) ?_
        refine AllReadyH.cons rfl (fun K hK => ?_) AllReadyH.nil
        go_simp
        refine (snum_any _ _ wr.drew (HT4.out.below (Below.refl _ _).drew) (by rw [List.length_take]; omega)).mono ?_
        rintro e wA ⟨rfl, bA⟩
        have BA : Hid (Below wr.heap.size wr wA) := Lib.hid ((Below.refl _ wr).drew.trans bA)
        clear bA
        try go_wp2_with fail
        refine hK.out _ _ ?_ (fun hHeld => ?_)
        · exact trivial
        clear hK K
        try simp only [List.getElem_toArray, List.getElem_cons_succ, List.getElem_cons_zero, Act.put, List.setIfInBounds_toArray, List.set_cons_zero, List.set_cons_succ]
        refine wpAnyH_ready (rs := [6]) (by kernel_rfl) (by simp) ?_
        refine AllReadyH.cons rfl (fun K hK => ?_) AllReadyH.nil
        go_simp
        refine (snum_any _ _ wA ((HT124.out.below BA.out).more BA.out.size) (by rw [List.length_drop, HS128.out]; omega)).mono ?_
        rintro e wB ⟨rfl, bB⟩
        have BB : Hid (Below wr.heap.size wr wB) := Lib.hid (BA.out.trans (bB.mono BA.out.size))
        clear bB
        try go_wp2_with fail
        refine hK.out _ _ ?_ (fun hHeld => ?_)
        · exact trivial
        clear hK K
        try simp only [List.getElem_toArray, List.getElem_cons_succ, List.getElem_cons_zero, Act.put, List.setIfInBounds_toArray, List.set_cons_zero, List.set_cons_succ]
        refine wpAnyH_take (i := 7) (v := ?_) rfl (by kernel_rfl) (by kernel_rfl) (by kernel_rfl) (fun _ _ _ h => h) (Or.inl ⟨by rfl, ?_⟩) hHeld ?_
        rotate_left
        · intro w' hSw; go_simp; try with_reducible rfl
        simp only [List.getElem_toArray, List.getElem_cons_succ, List.getElem_cons_zero, Act.put, List.setIfInBounds_toArray, List.set_cons_zero, List.set_cons_succ]
        refine wpAnyH_take (i := 8) (v := ?_) rfl (by kernel_rfl) (by kernel_rfl) (by kernel_rfl) (fun _ _ _ h => h) (Or.inl ⟨by rfl, ?_⟩) hHeld ?_
        rotate_left
        · intro w' hSw; go_simp; try with_reducible rfl
        simp only [List.getElem_toArray, List.getElem_cons_succ, List.getElem_cons_zero, Act.put, List.setIfInBounds_toArray, List.set_cons_zero, List.set_cons_succ]
        refine wpAnyH_done (by kernel_rfl) ?_ _
        have HBB := Lib.hid (HB.out.trans (BB.out.mono HB.out.size))
        clear hmax
        go_wp2_with fail
        go_roundw
        case measure => simp [intOf]; omega
        case rel => exact ⟨i + 1, by omega, by rw [HSN.out, Nat.max_assoc]; rfl, by go_num, HBB.out⟩
      · obtain rfl : i = 16 := by omega
        have hlt' : ¬ (16 : Int) < 16 := by omega
        rw [List.take_of_length_le (by rw [SL.out]; exact Nat.le_refl _)]
        have hml : mostL g S < 4294967296 := mostL_lt S g HG.out S128.out
        have hnn : nextN V g = if (mostL g S + 1) % 2 = g % 2 then mostL g S + 2 else mostL g S + 1 := by rw [nextN, ← HSE.out]
        have HNN := Lib.hid hnn
        have BW := Lib.hid (B1.out.trans (HB.out.mono B1.out.size))
        generalize mostL g S = M at hml HNN ⊢
        have HML := Lib.hid hml
        clear hnn
        obtain ⟨N1, hN1⟩ : ∃ N1, N1 = M + 1 := ⟨_, rfl⟩
        obtain ⟨N2, hN2⟩ : ∃ N2, N2 = N1 + 1 := ⟨_, rfl⟩
        have w0 : IntKind.u64.wrap (M : Int) = M := by simp [IntKind.wrap, IntKind.bits]; omega
        have a1 : (M : Int) + 1 = N1 := by omega
        have w1 : IntKind.u64.wrap (N1 : Int) = N1 := by simp [IntKind.wrap, IntKind.bits]; omega
        have a2 : (N1 : Int) + 1 = N2 := by omega
        have w2 : IntKind.u64.wrap (N2 : Int) = N2 := by simp [IntKind.wrap, IntKind.bits]; omega
        have wg : IntKind.u64.wrap (g : Int) = g := by have := HG.out; simp [IntKind.wrap, IntKind.bits]; omega
        have HNA : Hid (nextN V g = if N1 % 2 = g % 2 then N2 else N1) := Lib.hid (by rw [HNN.out, hN2, hN1])
        clear HNN HML hml hN1 hN2
        have fin : Hid (∀ (N : Nat) (o : Ending), nextN V g = N → (4294967295 < N → o = .returned (.tuple #[.int .u32 0, .int .i64 9])) → (¬ 4294967295 < N → o = .returned (.tuple #[.int .u32 (N : Int), .int .i64 0])) → o = .returned (.tuple #[.int .u32 (nextG ss ws g : Nat), .int .i64 (nextE ss ws g)])) := Lib.hid (fun N o h1 h2 h3 => by
          have hE : nextE ss ws g = if 4294967295 < N then 9 else 0 := by rw [HNE.out, h1]
          by_cases hf : 4294967295 < N
          · have hE9 : nextE ss ws g = 9 := by rw [hE, if_pos hf]
            have hG : nextG ss ws g = 0 := by rw [HNG.out, hE9]; rfl
            rw [h2 hf, hE9, hG]; rfl
          · have hE0 : nextE ss ws g = 0 := by rw [hE, if_neg hf]
            have hG : nextG ss ws g = N := by rw [HNG.out, hE0, if_pos rfl, h1]
            rw [h3 hf, hE0, hG])
        by_cases hp : N1 % 2 = g % 2
        · have hp' : (N1 : Int) % 2 = (g : Int) % 2 := by omega
          have HN : Hid (nextN V g = N2) := Lib.hid (by rw [HNA.out, if_pos hp])
          by_cases hf : 4294967295 < N2
          · have hf' : (4294967295 : Int) < N2 := by omega
            have HF := Lib.hid hf
            clear hf hp
            go_wp2_with fail
            refine bodyPost_ret (results_tmp2 rfl _ _ _) rfl ?_
            exact ⟨fin.out N2 _ HN.out (fun _ => rfl) (fun h => absurd HF.out h), BW.out⟩
          · have hf' : ¬ (4294967295 : Int) < N2 := by omega
            have hcv : (N2 : Int) % 4294967296 = N2 := by omega
            have HF := Lib.hid hf
            clear hf hp
            go_wp2_with fail
            refine bodyPost_ret (results_tmp2 rfl _ _ _) rfl ?_
            exact ⟨fin.out N2 _ HN.out (fun h => absurd h HF.out) (fun _ => rfl), BW.out⟩
        · have hp' : ¬ (N1 : Int) % 2 = (g : Int) % 2 := by omega
          have HN : Hid (nextN V g = N1) := Lib.hid (by rw [HNA.out, if_neg hp])
          by_cases hf : 4294967295 < N1
          · have hf' : (4294967295 : Int) < N1 := by omega
            have HF := Lib.hid hf
            clear hf hp
            go_wp2_with fail
            refine bodyPost_ret (results_tmp2 rfl _ _ _) rfl ?_
            exact ⟨fin.out N1 _ HN.out (fun _ => rfl) (fun h => absurd HF.out h), BW.out⟩
          · have hf' : ¬ (4294967295 : Int) < N1 := by omega
            have hcv : (N1 : Int) % 4294967296 = N1 := by omega
            have HF := Lib.hid hf
            clear hf hp
            go_wp2_with fail
            refine bodyPost_ret (results_tmp2 rfl _ _ _) rfl ?_
            exact ⟨fin.out N1 _ HN.out (fun h => absurd h HF.out) (fun _ => rfl), BW.out⟩
end Go.Proofs.Ytdjoflhcagfmiaa
