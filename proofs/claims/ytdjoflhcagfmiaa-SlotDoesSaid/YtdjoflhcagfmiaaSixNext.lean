/-
  The document's own functions Behind and Next.
  Conditions: none.
-/
import Derived.Test.YtdjoflhcagfmiaaSixBytes
import Derived.Test.YtdjoflhcagfmiaaMFind
import Derived.Test.YtdjoflhcagfmiaaMRef
set_option linter.unusedVariables false
set_option linter.unusedSimpArgs false
set_option maxRecDepth 100000
namespace Go.Proofs.Ytdjoflhcagfmiaa
open Go.RowKit
theorem view_row {ss : List Bs} {ws : List Wr} {a : Nat} (ha : a < ss.length) : (viewL ss ws)[a]? = some (rowR ss ws [] a) := by
  rw [viewL, comes, layAll_at, List.getElem?_eq_getElem ha, rowR_nil, List.getD_eq_getElem?_getD, List.getElem?_eq_getElem ha]; rfl
theorem rseen_view (d : Value) (ss : List Bs) (ws : List Wr) (w : World) (h : DiskIn w w.heap.size d ss ws) (hm : May ss ws) {a : Nat} {s : Bs} (hs : (viewL ss ws)[a]? = some s) :
    Calls Try.prog 68 #[d, .int .i64 (a : Int)] w fun e w' => ∃ y, e = .returned y ∧ w'.ownsRow w.heap.size 5 1 y 128 (s.map u8) ∧ Below w.heap.size w w' := by
  have ha : a < ss.length := by
    have h1 := (List.getElem?_eq_some_iff.1 hs).1
    rw [(viewL_may hm).n] at h1
    rw [hm.n]; exact h1
  rw [view_row ha] at hs
  cases hs
  exact seen_any d ss ws w h hm ha
theorem own_cap {W : World} {base e n c : Nat} {A : Option Addr} {ys : List Value} (h : W.ownsRow base e 1 (.slice A n c) n ys) (hn : 0 < n) : (n : Int) ≤ c := by
  rcases h.2 with ⟨e1, h0⟩ | ⟨g, cap, cur, e1, _, _, hcap, _⟩
  · omega
  · cases e1
    omega
theorem max3i (ts : Array TypeId) (ty : TypeId) (a b c : Nat) (w : World) : (Builtin.max_ ts ty #[.int .i64 (a : Int), .int .i64 (b : Int), .int .i64 (c : Int)]).run Try.prog w = .ok (.int .i64 ((max (max a b) c : Nat) : Int)) w := by
  rw [run_max_int3]
  congr 2
  split <;> split at * <;> omega

def behindN (V : List Bs) (g : Nat) : Nat := if 4294967295 < nextN V g then 0 else nextN V g
set_option maxHeartbeats 4000000 in
theorem rbehind_any (d : Value) (ss : List Bs) (ws : List Wr) (g : Nat) (hg : g < 4294967296) (hm : May ss ws) (w : World) (h : DiskIn w w.heap.size d ss ws) :
    Calls Try.prog 43 #[d, .int .u32 (g : Int)] w fun e w' => e = .returned (.int .u32 (behindN (viewL ss ws) g : Nat)) ∧ Below w.heap.size w w' := by
  obtain ⟨v1, v2, rfl, h1, h2⟩ := id h
  have H := Lib.hid h
  have HG := Lib.hid hg
  have HM := Lib.hid hm
  obtain ⟨A1, c1, rfl, -, -, -, -⟩ := h1
  obtain ⟨A2, c2, rfl, -, -, -, -⟩ := h2
  have qb := below_new w (.cells #[.slice A1 ss.length c1, .slice A2 ws.length c2] 29)
  have q0 := heap_alloc_self w (.cells #[.slice A1 ss.length c1, .slice A2 ws.length c2] 29)
  have hC := viewL_may hm
  obtain ⟨V, hV⟩ : ∃ V, V = viewL ss ws := ⟨_, rfl⟩
  rw [← hV] at hC ⊢
  obtain ⟨k, hk⟩ : ∃ k, k = 16 - slotN g := ⟨_, rfl⟩
  have hs16 := slotN_cases g
  have hk16 : k ≤ 16 := by omega
  obtain ⟨S, hS0⟩ : ∃ S, S = otherS V g := ⟨_, rfl⟩
  have hSe : (V.drop k).take 16 = S := by rw [hS0, otherS, hk]
  have hSl : S.length = 16 := by rw [← hSe, List.length_take, List.length_drop, hC.n]; omega
  have hS128 : ∀ s ∈ S, s.length = 128 := fun s hs => hC.s s (by rw [← hSe] at hs; exact List.mem_of_mem_drop (List.mem_of_mem_take hs))
  have hSat : ∀ i, i < 16 → V[k + i]? = S[i]? := fun i hi => by rw [← hSe, List.getElem?_take_of_lt hi, List.getElem?_drop]
  have hkI : Hid ((16 : Int) - (slotN g : Nat) = k) := Lib.hid (by omega)
  have SL := Lib.hid hSl
  have S128 := Lib.hid hS128
  have SAT := Lib.hid hSat
  have HSE := Lib.hid hS0
  have HK := Lib.hid hk
  have HV := Lib.hid hV
  have hsl16 : slotN g ≤ 16 := slotN_le g
  clear h hm hV hC hk hs16 hS0 hSe hSl hS128 hSat
  go_enter Try.func43, Try.ntmps43
  go_wp2_with (refine (rslot_any g _).mono ?_; rintro e w' ⟨rfl, rfl⟩)
  rw [hkI.out]
  obtain ⟨q, hq⟩ : ∃ q, q = w.alloc (.cells #[.slice A1 ss.length c1, .slice A2 ws.length c2] 29) := ⟨_, rfl⟩
  rw [← hq] at qb q0 ⊢
  have QB := Lib.hid qb
  have X0 := Lib.hid q0
  clear qb q0 hq
  go_loopw [6, 7] (fun s6 s7 wr => ∃ i : Nat, i ≤ 16 ∧ s6 = .int .i64 ((mostL g (S.take i) : Nat) : Int) ∧ s7 = .int .i64 i ∧ Below q.heap.size q wr) (fun _ s7 _ => 16 - (intOf s7).toNat)
  case atStart => exact ⟨0, by omega, rfl, rfl, Below.refl _ _⟩
  case round =>
    obtain ⟨i, hi, rfl, rfl, hb⟩ := hrel
    have HB := Lib.hid hb
    have XR := Lib.hid ((hb.block _ (heap_lt X0.out)).trans X0.out)
    have BW := Lib.hid (QB.out.trans (hb.mono QB.out.size))
    clear hb
    by_cases hlt : i < 16
    · have hlt' : (i : Int) < 16 := by omega
      have hiS : i < S.length := by rw [SL.out]; exact hlt
      have hs128 : S[i].length = 128 := S128.out _ (List.getElem_mem hiS)
      have hsn : mostL g (S.take (i + 1)) = max (max (mostL g (S.take i)) (headG S[i])) (tailG S[i]) := by
        rw [List.take_add_one, List.getElem?_eq_getElem hiS, Option.toList_some, mostL_snoc]
      have hva : (viewL ss ws)[k + i]? = some S[i] := by rw [← HV.out, SAT.out i hlt, List.getElem?_eq_getElem hiS]
      have HSN := Lib.hid hsn
      generalize S[i] = sc at hs128 HSN hva
      obtain ⟨a, ha⟩ : ∃ a, a = k + i := ⟨_, rfl⟩
      rw [← ha] at hva
      have HVA := Lib.hid hva
      have HS128 := Lib.hid hs128
      have hki : (k : Int) + i = a := by omega
      have ha32 : a < 32 := by omega
      obtain ⟨k0, k1⟩ := cell2_of XR.out
      clear hva hs128 hsn ha hiS
      go_wp2_with fail
      refine (rseen_view _ ss ws wr ((H.out.below BW.out).more BW.out.size) HM.out HVA.out).mono ?_
      rintro e u ⟨y, rfl, ho, bu⟩
      obtain ⟨A6, c6, rfl⟩ := own_slice_ ho
      have hc6 : (128 : Int) ≤ c6 := by
        exact own_cap (n := 128) ho (by omega)
      have HTU : Txt u u.heap.size (.slice A6 128 c6) sc := own_txt ho rfl HS128.out.symm (by rw [HS128.out]; omega)
      have hc64 : (4 : Int) ≤ c6 := by omega
      have hc6n : ¬ c6 = 124 := by omega
      have ht4 : Txt u u.heap.size (.slice A6 4 c6) (sc.take 4) := by
        have h := HTU
        rw [← HS128.out] at h
        exact h.cut (by rw [HS128.out]; omega)
      have ht124 : ∃ b6 o6, A6 = some ⟨b6, o6, none⟩ ∧ Txt u u.heap.size (.slice (some ⟨b6, o6 + 124, none⟩) 4 (c6 - 124)) (sc.drop 124) := by
        have h := HTU
        rw [← HS128.out] at h
        obtain ⟨b6, o6, e6, _, h6⟩ := h.sub (k := 124) (L := 4) (by omega) (by rw [HS128.out]; omega)
        rw [List.take_of_length_le (by rw [List.length_drop, HS128.out]; omega)] at h6
        exact ⟨b6, o6, e6, h6⟩
      obtain ⟨b6, o6, rfl, ht124⟩ := ht124
      have hmax := max3i #[3, 3, 3] 3 (mostL g (S.take i)) (leN (sc.take 4)) (leN (sc.drop 124))
      have HT4 := Lib.hid ht4
      have HT124 := Lib.hid ht124
      have BU := Lib.hid (HB.out.trans (bu.mono HB.out.size))
      generalize mostL g (S.take i) = M at HSN hmax ⊢
      clear ht4 ht124 HTU ho bu k0 k1
      go_wp2_with fail
      refine wp_region_held_drew (S := fun _ => True) (by kernel_rfl) trivial (fun hHeld => ?_)
      refine wpAnyH_take (i := 0) (v := ?_) rfl (by kernel_rfl) (by kernel_rfl) (by kernel_rfl) (fun _ _ _ h => h) (Or.inl ⟨by rfl, ?_⟩) hHeld ?_
      rotate_left
      · intro w' hSw; go_simp; try with_reducible rfl
      simp only [List.getElem_toArray, List.getElem_cons_succ, List.getElem_cons_zero, Act.put, List.setIfInBounds_toArray, List.set_cons_zero, List.set_cons_succ]
      refine wpAnyH_take (i := 1) (v := ?_) rfl (by kernel_rfl) (by kernel_rfl) (by kernel_rfl) (fun _ _ _ h => h) (Or.inl ⟨by rfl, ?_⟩) hHeld ?_
      rotate_left
      · intro w' hSw; go_simp; try with_reducible rfl
      simp only [List.getElem_toArray, List.getElem_cons_succ, List.getElem_cons_zero, Act.put, List.setIfInBounds_toArray, List.set_cons_zero, List.set_cons_succ]
      refine wpAnyH_take (i := 2) (v := ?_) rfl (by kernel_rfl) (by kernel_rfl) (by kernel_rfl) (fun _ _ _ h => h) (Or.inl ⟨by rfl, ?_⟩) hHeld ?_
      rotate_left
      · intro w' hSw; go_simp; try with_reducible rfl
      simp only [List.getElem_toArray, List.getElem_cons_succ, List.getElem_cons_zero, Act.put, List.setIfInBounds_toArray, List.set_cons_zero, List.set_cons_succ]
      refine wpAnyH_take (i := 4) (v := ?_) rfl (by kernel_rfl) (by kernel_rfl) (by kernel_rfl) (fun _ _ _ h => h) (Or.inl ⟨by rfl, ?_⟩) hHeld ?_
      rotate_left
      · intro w' hSw; go_simp; try with_reducible rfl
      simp only [List.getElem_toArray, List.getElem_cons_succ, List.getElem_cons_zero, Act.put, List.setIfInBounds_toArray, List.set_cons_zero, List.set_cons_succ]
      refine wpAnyH_take (i := 5) (v := ?_) rfl (by kernel_rfl) (by kernel_rfl) (by kernel_rfl) (fun _ _ _ h => h) (Or.inl ⟨by rfl, ?_⟩) hHeld ?_
      rotate_left
      · intro w' hSw; go_simp; try with_reducible rfl
      simp only [List.getElem_toArray, List.getElem_cons_succ, List.getElem_cons_zero, Act.put, List.setIfInBounds_toArray, List.set_cons_zero, List.set_cons_succ]
      refine wpAnyH_ready (rs := [3]) (by kernel_rfl) (by simp) ?_
      refine AllReadyH.cons rfl (fun K hK => ?_) AllReadyH.nil
      go_simp
      refine (rget_any _ _ u.drew (HT4.out.below (Below.refl _ _).drew) (by rw [List.length_take]; omega)).mono ?_
      rintro e wA ⟨rfl, rfl⟩
      try go_wp2_with fail
      refine hK.out _ _ ?_ (fun hHeld => ?_)
      · exact trivial
      clear hK K
      try simp only [List.getElem_toArray, List.getElem_cons_succ, List.getElem_cons_zero, Act.put, List.setIfInBounds_toArray, List.set_cons_zero, List.set_cons_succ]
      refine wpAnyH_ready (rs := [6]) (by kernel_rfl) (by simp) ?_
      refine AllReadyH.cons rfl (fun K hK => ?_) AllReadyH.nil
      go_simp
      refine (rget_any _ _ u.drew (HT124.out.below (Below.refl _ _).drew) (by rw [List.length_drop, HS128.out]; omega)).mono ?_
      rintro e wB ⟨rfl, rfl⟩
      try go_wp2_with fail
      refine hK.out _ _ ?_ (fun hHeld => ?_)
      · exact trivial
      clear hK K
      try simp only [List.getElem_toArray, List.getElem_cons_succ, List.getElem_cons_zero, Act.put, List.setIfInBounds_toArray, List.set_cons_zero, List.set_cons_succ]
      refine wpAnyH_take (i := 7) (v := ?_) rfl (by kernel_rfl) (by kernel_rfl) (by kernel_rfl) (fun _ _ _ h => h) (Or.inl ⟨by rfl, ?_⟩) hHeld ?_
      rotate_left
      · intro w' hSw; go_simp; try with_reducible rfl
      simp only [List.getElem_toArray, List.getElem_cons_succ, List.getElem_cons_zero, Act.put, List.setIfInBounds_toArray, List.set_cons_zero, List.set_cons_succ]
      refine wpAnyH_take (i := 8) (v := ?_) rfl (by kernel_rfl) (by kernel_rfl) (by kernel_rfl) (fun _ _ _ h => h) (Or.inl ⟨by rfl, ?_⟩) hHeld ?_
      rotate_left
      · intro w' hSw; go_simp; try with_reducible rfl
      simp only [List.getElem_toArray, List.getElem_cons_succ, List.getElem_cons_zero, Act.put, List.setIfInBounds_toArray, List.set_cons_zero, List.set_cons_succ]
      refine wpAnyH_done (by kernel_rfl) ?_ _
      have HBB : Hid (Below q.heap.size q u.drew) := Lib.hid BU.out.drew
      clear hmax
      go_wp2_with fail
      go_roundw
      case measure => simp [intOf]; omega
      case rel => exact ⟨i + 1, by omega, by rw [HSN.out, Nat.max_assoc]; rfl, by go_num, HBB.out⟩
    · obtain rfl : i = 16 := by omega
      have hlt' : ¬ (16 : Int) < 16 := by omega
      rw [List.take_of_length_le (by rw [SL.out]; exact Nat.le_refl _)]
      have hml : mostL g S < 4294967296 := mostL_lt S g HG.out S128.out
      have hnn : nextN V g = if (mostL g S + 1) % 2 = g % 2 then mostL g S + 2 else mostL g S + 1 := by rw [nextN, ← HSE.out]
      have HNN := Lib.hid hnn
      generalize mostL g S = M at hml HNN ⊢
      clear hnn
      obtain ⟨N1, hN1⟩ : ∃ N1, N1 = M + 1 := ⟨_, rfl⟩
      obtain ⟨N2, hN2⟩ : ∃ N2, N2 = N1 + 1 := ⟨_, rfl⟩
      obtain ⟨R1, hR1⟩ : ∃ R1, R1 = N1 % 4294967296 := ⟨_, rfl⟩
      have a1 : (M : Int) + 1 = N1 := by omega
      have a2 : (N1 : Int) + 1 = N2 := by omega
      have hN1b : N1 ≤ 4294967296 := by omega
      have hN2b : N2 ≤ 4294967297 := by omega
      have wg : (N1 : Int) % 4294967296 = R1 := by omega
      have hsl : slotN R1 = N1 % 2 * 16 := by rw [slotN, hR1]; omega
      have hk := HK.out
      rw [slotN] at hk
      by_cases hp : N1 % 2 = g % 2
      · have hne : ¬ ((slotN R1 : Nat) : Int) = k := by rw [hsl]; omega
        have HNE := Lib.hid hne
        have hN : nextN V g = N2 := by rw [HNN.out, ← hN1, if_pos hp, hN2, hN1]
        have hB : behindN V g = if 4294967295 < N2 then 0 else N2 := by rw [behindN, hN]
        have HBN := Lib.hid hB
        by_cases hf : 4294967296 ≤ N2
        · have hf' : (4294967296 : Int) ≤ N2 := by omega
          have hB0 : behindN V g = 0 := by rw [hB, if_pos (by omega)]
          have HB0 := Lib.hid hB0
          clear hN hB hB0 hsl hk hp hN1 hN2 hR1 HNN hml
          go_wp2_with (refine (rslot_any R1 _).mono ?_; rintro e w' ⟨rfl, rfl⟩)
          go_ret
          exact ⟨by rw [HB0.out]; rfl, BW.out⟩
        · have hfd : decide ((4294967296 : Int) ≤ N2) = false := decide_eq_false (by omega)
          have hfn : N2 ≤ 4294967295 := by omega
          have hB0 : behindN V g = N2 := by rw [hB, if_neg (by omega)]
          have hne1 : ¬ ((slotN N1 : Nat) : Int) = k := by rw [slotN]; omega
          have HB0 := Lib.hid hB0
          clear hN hB hB0 hsl hk hp hN1 hN2 hR1 HNN hml wg hne hf
          go_wp2_with fail
          refine (rslot_any N1 _).mono ?_
          rintro e w' ⟨rfl, rfl⟩
          go_wp2_with fail
          go_ret
          exact ⟨by rw [HB0.out]; rfl, BW.out⟩
      · have hne : ((slotN R1 : Nat) : Int) = k := by rw [hsl]; omega
        have hN : nextN V g = N1 := by rw [HNN.out, ← hN1, if_neg hp]
        have hB : behindN V g = if 4294967295 < N1 then 0 else N1 := by rw [behindN, hN]
        by_cases hf : 4294967296 ≤ N1
        · have hf' : (4294967296 : Int) ≤ N1 := by omega
          have hB0 : behindN V g = 0 := by rw [hB, if_pos (by omega)]
          have HB0 := Lib.hid hB0
          clear hN hB hB0 hsl hk hp hN1 hN2 hR1 HNN hml a2
          go_wp2_with (refine (rslot_any R1 _).mono ?_; rintro e w' ⟨rfl, rfl⟩)
          go_ret
          exact ⟨by rw [HB0.out]; rfl, BW.out⟩
        · have hfd : decide ((4294967296 : Int) ≤ N1) = false := decide_eq_false (by omega)
          have hfn : N1 ≤ 4294967295 := by omega
          have hB0 : behindN V g = N1 := by rw [hB, if_neg (by omega)]
          have hne1 : ((slotN N1 : Nat) : Int) = k := by rw [slotN]; omega
          have HB0 := Lib.hid hB0
          clear hN hB hB0 hsl hk hp hN1 hN2 hR1 HNN hml a2 wg hne hf
          go_wp2_with fail
          refine (rslot_any N1 _).mono ?_
          rintro e w' ⟨rfl, rfl⟩
          go_wp2_with fail
          go_ret
          exact ⟨by rw [HB0.out]; rfl, BW.out⟩

theorem behind_pos {V : List Bs} {g : Nat} (h : ¬ 4294967295 < nextN V g) : behindN V g = nextN V g ∧ ¬ nextN V g = 0 :=
  ⟨by rw [behindN, if_neg h], by have := (next_parts V g).1; omega⟩
set_option maxHeartbeats 4000000 in
theorem rnext6_any (d : Value) (ss : List Bs) (ws : List Wr) (g : Nat) (hg : g < 4294967296) (w : World) (h : DiskIn w w.heap.size d ss ws) :
    Calls Try.prog 19 #[d, .int .u32 (g : Int)] w fun e w' => e = .returned (.tuple #[.int .u32 (nextG ss ws g : Nat), .int .i64 (nextE ss ws g)]) ∧ Below w.heap.size w w' := by
  obtain ⟨v1, v2, rfl, h1, h2⟩ := id h
  have H := Lib.hid h
  obtain ⟨A1, c1, rfl, -, -, -, -⟩ := h1
  obtain ⟨A2, c2, rfl, -, -, -, -⟩ := h2
  have qb := below_new w (.cells #[.slice A1 ss.length c1, .slice A2 ws.length c2] 29)
  have q0 := heap_alloc_self w (.cells #[.slice A1 ss.length c1, .slice A2 ws.length c2] 29)
  clear h
  go_enter Try.func19, Try.ntmps19
  go_wp2_with fail
  generalize w.alloc (.cells #[.slice A1 ss.length c1, .slice A2 ws.length c2] 29) = q at q0 qb ⊢
  have QB := Lib.hid qb
  refine (rmay_any _ ss ws q ((H.out.below QB.out).more QB.out.size)).mono ?_
  rintro e w1 ⟨rfl, b1⟩
  have B1 := Lib.hid (QB.out.trans (b1.mono QB.out.size))
  obtain ⟨k0, k1⟩ := cell2_of ((b1.block _ (heap_lt q0)).trans q0)
  clear q0 qb b1
  cases hm : mayB ss ws with
  | false =>
    have hN : nextE ss ws g = 8 := by rw [nextE, hm]; rfl
    have hN2 : nextG ss ws g = 0 := by rw [nextG, hN]; rfl
    have HN := Lib.hid hN
    have HN2 := Lib.hid hN2
    clear hm hN hN2
    go_wp2_with fail
    refine bodyPost_ret (results_tmp2 rfl _ _ _) rfl ?_
    exact ⟨by rw [HN.out, HN2.out]; rfl, B1.out⟩
  | true =>
    have hM := mayB_iff.1 hm
    have hNE : nextE ss ws g = if 4294967295 < nextN (viewL ss ws) g then 9 else 0 := by rw [nextE, hm, if_pos rfl]; rfl
    have hNG : nextG ss ws g = if nextE ss ws g = 0 then nextN (viewL ss ws) g else 0 := rfl
    have HM := Lib.hid hM
    clear hm hM
    go_wp2_with fail
    refine (rbehind_any _ ss ws g hg HM.out w1 ((H.out.below B1.out).more B1.out.size)).mono ?_
    rintro e w2 ⟨rfl, b2⟩
    have B2 := Lib.hid (B1.out.trans (b2.mono B1.out.size))
    clear k0 k1 b2
    generalize viewL ss ws = V at hNE hNG ⊢
    by_cases hf : 4294967295 < nextN V g
    · have hb : behindN V g = 0 := by rw [behindN, if_pos hf]
      have h9 : nextE ss ws g = 9 := by rw [hNE, if_pos hf]
      have h0 : nextG ss ws g = 0 := by rw [hNG, h9]; rfl
      rw [hb]
      have H9 := Lib.hid h9
      have H0 := Lib.hid h0
      clear hb h9 h0 hNE hNG hf
      go_wp2_with fail
      refine bodyPost_ret (results_tmp2 rfl _ _ _) rfl ?_
      exact ⟨by rw [H9.out, H0.out]; rfl, B2.out⟩
    · obtain ⟨hb, hz⟩ := behind_pos hf
      have h9 : nextE ss ws g = 0 := by rw [hNE, if_neg hf]
      have h0 : nextG ss ws g = nextN V g := by rw [hNG, h9, if_pos rfl]
      rw [hb]
      have hz' : ¬ (nextN V g : Int) = 0 := by omega
      have H9 := Lib.hid h9
      have H0 := Lib.hid h0
      clear hb h9 h0 hNE hNG hf hz
      go_wp2_with fail
      refine bodyPost_ret (results_tmp2 rfl _ _ _) rfl ?_
      exact ⟨by rw [H9.out, H0.out]; rfl, B2.out⟩
end Go.Proofs.Ytdjoflhcagfmiaa
