/-
 The document's own Get, as the statements' package computes it, answers what the plain function says.
 Conditions: the bytes can be read as a slice.
-/
import Derived.Test.YteloiajocjahmaaGreatDoorSGCodR
import Derived.Deep.RegionWith
import Derived.IntWalk
set_option linter.unusedVariables false
set_option linter.unusedSimpArgs false

namespace Go.Proofs.YteloiajocjahmaaGreatDoor
open Go.RowKit Go.Shelf

set_option maxHeartbeats 400000 in
theorem rget_arg (v : Value) (xs : List UInt8) (x : Int) (w : World) (hx : Txt w w.heap.size v xs) (h : x < 0 ∨ (xs.length : Int) < x) :
  Calls Tryz.prog 82 #[v, .int .i64 x] w fun e W' => e = .returned (.tuple #[.int .i64 0, .int .i64 0, .int .i64 2]) ∧ w = W' := by
 obtain ⟨A, cap, rfl, _, _, _, _⟩ := hx
 by_cases h1 : x < 0
 ·have g1 : decide (x < 0) = true := decide_eq_true h1
  go_enter Tryz.func82, Tryz.ntmps82
  go_wp2
  go_ret3
  exact ⟨rfl, rfl⟩
 ·have g1 : decide (x < 0) = false := decide_eq_false h1
  have h2 : (xs.length : Int) < x := by omega
  go_enter Tryz.func82, Tryz.ntmps82
  go_wp2
  go_ret3
  exact ⟨rfl, rfl⟩

set_option maxHeartbeats 400000 in
theorem rget_empty (A : Option Addr) (cap : Nat) (w : World) :
  Calls Tryz.prog 82 #[.slice A 0 cap, .int .i64 0] w fun e W' => e = .returned (.tuple #[.int .i64 0, .int .i64 0, .int .i64 8]) ∧ Below w.heap.size w W' := by
 go_enter Tryz.func82, Tryz.ntmps82
 go_wp2
 go_loop [7, 8, 9] (fun n o i => n = .int .i64 0 ∧ o = .int .i64 1 ∧ i = .int .i64 0) (fun _ _ _ => 0)
 case atStart => exact ⟨rfl, rfl, rfl⟩
 case round =>
  obtain ⟨rfl, rfl, rfl⟩ := hrel
  go_wp2
  go_ret3
  exact ⟨rfl, Below.refl _ _⟩

set_option maxHeartbeats 2000000 in
theorem rget_some (b off cap k : Nat) (xs : List UInt8) (w : World) (hx : Txt w w.heap.size (.slice (some ⟨b, off, none⟩) xs.length cap) xs) (hk : k ≤ xs.length) (hbig : xs.length ≤ 100000) :
  Calls Tryz.prog 82 #[.slice (some ⟨b, off, none⟩) xs.length cap, .int .i64 k] w fun e W' => e = .returned (.tuple #[.int .i64 (getSpec xs k).1, .int .i64 (getSpec xs k).2.1, .int .i64 (getSpec xs k).2.2]) ∧ Below w.heap.size w W' := by
 have hcell : ∀ j (h : j < xs.length), w.cell? ⟨b, off + j, none⟩ = some (u8 xs[j]) := by
  intro j h
  obtain ⟨A', cap', e, _, _, _, h3⟩ := hx
  cases e
  obtain ⟨b', off', e, _, hc⟩ := h3 (by omega)
  cases e
  exact hc j h
 obtain ⟨A', cap', e, hcap, _, _, _⟩ := id hx
 cases e
 have HC := Lib.hid hcell
 have HX := Lib.hid hx
 clear hcell hx
 have g0 : decide ((k : Int) < 0) = false := decide_eq_false (by omega)
 go_enter Tryz.func82, Tryz.ntmps82
 go_wp2
 go_loop [7, 8, 9] (fun n o i => ∃ (j s m O : Nat), j = k + s ∧ s ≤ 5 ∧ j ≤ xs.length ∧ n = .int .i64 m ∧ o = .int .i64 O ∧ i = .int .i64 j ∧ m = val ((xs.drop k).take s) ∧ O = 128 ^ s ∧ (∀ z ∈ (xs.drop k).take s, 128 ≤ z.toNat))
  (fun _ _ i => 100010 - (intOf i).toNat)
 case atStart => exact ⟨k, 0, 0, 1, rfl, by omega, hk, rfl, rfl, rfl, rfl, rfl, by simp⟩
 case round =>
  obtain ⟨j, s, m, O, hj, hs5, hjl, rfl, rfl, rfl, hm, hO, hall⟩ := hrel
  have HJ := Lib.hid hj
  have HM := Lib.hid hm
  have HOO := Lib.hid hO
  have HALL := Lib.hid hall
  clear hj hm hO hall
  by_cases hlt : j < xs.length ∧ s < 5
  ·obtain ⟨hl1, hl2⟩ := hlt
   have g1 : decide ((j : Int) < xs.length) = true := decide_eq_true (by omega)
   have g1' : decide (j < xs.length) = true := decide_eq_true hl1
   have g2 : (j : Int) < (k : Int) + 5 := by have := HJ.out; omega
   have hck := HC.out j hl1
   have hbyte := byte_lt xs[j]
   have htake : (xs.drop k).take (s + 1) = (xs.drop k).take s ++ [xs[j]] := by
    rw [List.take_succ_eq_append_getElem (by rw [List.length_drop]; have := HJ.out; omega)]
    congr 2
    rw [List.getElem_drop]
    congr 1
    exact HJ.out.symm
   have hlen : ((xs.drop k).take s).length = s := by rw [List.length_take, List.length_drop]; have := HJ.out; omega
   have hO1 : O ≤ 268435456 := by rw [HOO.out]; exact Nat.pow_le_pow_right (by decide) (show s ≤ 4 by omega)
   have hm1 : m < O := by rw [HM.out, HOO.out]; have := val_lt ((xs.drop k).take s); rwa [hlen] at this
   generalize hxj : xs[j] = x at *
   have HT := Lib.hid htake
   have HLEN := Lib.hid hlen
   unfold u8 at hck
   generalize hu : (x.toNat : Int) = u at hck hbyte
   have hu0 : 0 ≤ u := by omega
   have hV : ((val ((xs.drop k).take (s + 1)) : Nat) : Int) = (m : Int) + u % 128 * (O : Int) := by
    rw [htake, val_snoc, hlen, ← HM.out, ← HOO.out, ← hu]; simp
   obtain ⟨p, hp⟩ : ∃ p : Int, p = u % 128 * (O : Int) := ⟨_, rfl⟩
   have hp0 : 0 ≤ p := by rw [hp]; exact Int.mul_nonneg (by omega) (by omega)
   have hp1 : p ≤ 34091302912 := by rw [hp]; exact Int.le_trans (Int.mul_le_mul_of_nonneg_right (by omega : u % 128 ≤ 127) (by omega)) (by omega)
   rw [← hp] at hV
   have HV := Lib.hid hV
   have HU := Lib.hid hu
   have hp2 : u % 128 * (O : Int) = p := hp.symm
   clear hxj htake hlen hu hV hp
   by_cases h128 : 128 ≤ u
   ·go_wp2
    go_round
    case rel =>
     refine ⟨j + 1, s + 1, val ((xs.drop k).take (s + 1)), O * 128, by have := HJ.out; omega, by omega, by omega, by rw [HV.out], by go_num, by go_num, rfl, by rw [HOO.out]; rfl, ?_⟩
     rw [HT.out]
     intro z hz
     rcases List.mem_append.1 hz with hz | hz
     ·exact HALL.out z hz
     ·have := HU.out
      rw [List.mem_singleton.1 hz]
      omega
    case measure => simp [intOf]; omega
   ·have hx128 : x.toNat < 128 := by have := HU.out; omega
    have hlast := getSpec_last (k := k) hk (p := (xs.drop k).take s) (x := x) (by rw [← HT.out]; exact List.take_prefix_take_left (by omega)) hx128 HALL.out
    rw [← HT.out, HLEN.out] at hlast
    obtain ⟨V, hVe⟩ : ∃ V, V = val ((xs.drop k).take (s + 1)) := ⟨_, rfl⟩
    have hVp : (m : Int) + p = (V : Int) := by rw [hVe, HV.out]
    rw [← hVe] at hlast
    have HLAST := Lib.hid hlast
    clear hlast hVe
    obtain ⟨b2, off2, e2, hcap2, hsub⟩ := HX.out.sub (k := k) (L := s + 1) (by omega) (by have := HJ.out; omega)
    cases e2
    have HS := Lib.hid hsub
    clear hsub
    have hj1 : (j : Int) + 1 = (k : Int) + ((s + 1 : Nat) : Int) := by have := HJ.out; omega
    by_cases hbigV : 2147483647 < V
    ·have g3 : decide (2147483647 < (V : Int)) = true := decide_eq_true (by omega)
     have hres : getSpec xs k = (0, 0, 8) := by rw [HLAST.out, if_neg (by omega)]
     have HR := Lib.hid hres
     clear hres hj1
     go_wp2
     go_quiet (fail)
     go_wp2
     go_ret3
     exact ⟨by rw [HR.out]; rfl, below_drewN (Below.refl _ _) _⟩
    ·have g3 : decide (2147483647 < (V : Int)) = false := decide_eq_false (by omega)
     have HB := Lib.hid (fun w' => rbytes_any V w' (by omega))
     have w1 : IntKind.i64.wrap ((j : Int) + 1) = (j : Int) + 1 := IntWalk.i64_in _ (by omega)
     have w2 : 0 ≤ (j : Int) + 1 := by omega
     have w3 : ((j : Int) + 1).toNat = j + 1 := by omega
     have w4 : k ≤ j + 1 := by have := HJ.out; omega
     have w5 : j + 1 ≤ cap := by omega
     have w6 : (k : Int) ≤ (j : Int) + 1 := by omega
     have w7 : (j : Int) + 1 ≤ (cap : Int) := by omega
     have w9 : k < cap := by have := HJ.out; omega
     have w10 : ¬ cap = k := by omega
     have w8 : (0 : Int) ≤ (k : Int) := by omega
     have hL : s + 1 = j + 1 - k := by have := HJ.out; omega
     rw [hL] at HS
     have hle5 : ((s + 1 : Nat) : Int) = ((s : Int) + 1) := by omega
     generalize hl2 : (xs.drop k).take (j + 1 - k) = l2 at HS
     have Hl2 := Lib.hid hl2
     clear hl2
     have Hl2' := Hl2
     rw [← hL] at Hl2
     have hres : bytesOf V = l2 → getSpec xs k = ((V : Int), (j : Int) + 1, 0) := fun h => by
      have := HLAST.out
      rw [Hl2.out, if_pos ⟨by omega, h⟩] at this
      rw [this, hj1]
     have hres2 : bytesOf V ≠ l2 → getSpec xs k = (0, 0, 8) := fun h => by
      have := HLAST.out
      rw [Hl2.out, if_neg (fun h2 => h h2.2)] at this
      exact this
     have HR := Lib.hid hres
     have HR2 := Lib.hid hres2
     have HB6 := bytesOf_length_six (n := V) (by omega)
     generalize hl1 : bytesOf V = l1 at *
     clear hres hres2 hj1 hL hl1 hle5
     have HSd : Hid (Txt w.drew w.drew.heap.size (.slice (some ⟨b, off + k, none⟩) (j + 1 - k) (cap - k)) l2) := Lib.hid HS.out
     have r20 := run_txt_string HS.out
     have r21 : (convert 22 9 (.slice (some ⟨b, off + k, none⟩) (j + 1 - k) (cap - k))).run Tryz.prog w.drew = .ok (.string ⟨l2.toArray⟩) w.drew := run_txt_string (W := w.drew) HS.out
     by_cases heq : l1 = l2
     ·have HG := Lib.hid (HR.out heq)
      subst heq
      go_wp2
      clear hVp hp2 g1 g1' g2 hck hbyte hp0 hp1 hu0 h128 hm1 hO1 g0 hl1 hl2 hs5 hk hjl
      refine wp_region_any (by kernel_rfl) ?_
      try (change wpAny _ _ _ _ _ _ _ (World.drew _))
      refine wpAny_take (i := 0) (v := ?_) rfl (by kernel_rfl) (by kernel_rfl) (by kernel_rfl) (fun _ _ _ h => h) (Or.inl ⟨by rfl, ?_⟩) ?_
      rotate_left
      ·intro w; go_simp; try with_reducible rfl
      simp only [zn, Act.put]
      refine wpAny_take (i := 1) (v := ?_) rfl (by kernel_rfl) (by kernel_rfl) (by kernel_rfl) (fun _ _ _ h => h) (Or.inl ⟨by rfl, ?_⟩) ?_
      rotate_left
      ·intro w; go_simp; try with_reducible rfl
      simp only [zn, Act.put]
      refine wpAny_take (i := 2) (v := ?_) rfl (by kernel_rfl) (by kernel_rfl) (by kernel_rfl) (fun _ _ _ h => h) (Or.inl ⟨by rfl, ?_⟩) ?_
      rotate_left
      ·intro w; go_simp; try with_reducible rfl
      simp only [zn, Act.put]
      refine wpAny_take (i := 3) (v := ?_) rfl (by kernel_rfl) (by kernel_rfl) (by kernel_rfl) (fun _ _ _ h => h) (Or.inl ⟨by rfl, ?_⟩) ?_
      rotate_left
      ·intro w; go_simp; try with_reducible rfl
      simp only [zn, Act.put]
      refine wpAny_take (i := 6) (v := ?_) rfl (by kernel_rfl) (by kernel_rfl) (by kernel_rfl) (fun _ _ _ h => h) (Or.inl ⟨by rfl, ?_⟩) ?_
      rotate_left
      ·intro w; go_simp; try with_reducible rfl
      simp only [zn, Act.put]
      refine wpAny_take (i := 7) (v := ?_) rfl (by kernel_rfl) (by kernel_rfl) (by kernel_rfl) (fun _ _ _ h => h) (Or.inl ⟨by rfl, ?_⟩) ?_
      rotate_left
      ·intro w; go_simp; try with_reducible rfl
      simp only [zn, Act.put]
      refine wpAny_take (i := 8) (v := ?_) rfl (by kernel_rfl) (by kernel_rfl) (by kernel_rfl) (fun _ _ _ h => h) (Or.inl ⟨by rfl, ?_⟩) ?_
      rotate_left
      ·intro w; go_simp; try with_reducible rfl
      simp only [zn, Act.put]
      refine wpAny_take (i := 9) (v := ?_) rfl (by kernel_rfl) (by kernel_rfl) (by kernel_rfl) (fun _ _ _ h => h) (Or.inl ⟨by rfl, ?_⟩) ?_
      rotate_left
      ·intro w; go_simp; try with_reducible rfl
      simp only [zn, Act.put]
      refine wpAny_take (i := 10) (v := ?_) rfl (by kernel_rfl) (by kernel_rfl) (by kernel_rfl) (fun _ _ _ h => h) (Or.inl ⟨by rfl, ?_⟩) ?_
      rotate_left
      ·intro w; go_simp; try with_reducible rfl
      simp only [zn, Act.put]
      refine wpAny_ready (rs := [4, 11]) (by kernel_rfl) (by simp) ?_
      refine AllReady.cons rfl (fun K hK => ?_) ?_
      ·go_simp
       go_wp2_with (go_at_call 101; go_must (refine (HB.out _).mono ?_; rintro e w7 ⟨u7, rfl, ho7, hb7⟩; have HB7 := Lib.hid hb7; have r71 := run_txt_string (Txt.own (by unfold maxLen; omega) ho7); have r72 := run_txt_string (HSd.out.below hb7); clear ho7 hb7))
       try simp only [zn, Act.put]
       refine wpAny_ready (rs := [5, 11]) (by kernel_rfl) (by simp) ?_
       refine AllReady.cons rfl (fun K hK => ?_) ?_
       ·go_simp
        refine hK _ _ ?_
        clear hK K
        try simp only [zn, Act.put]
        refine wpAny_ready (rs := [11]) (by kernel_rfl) (by simp) ?_
        refine AllReady.cons rfl (fun K hK => ?_) ?_
        ·go_simp
         refine hK _ _ ?_
         clear hK K
         try simp only [zn, Act.put]
         refine wpAny_take (i := 12) (v := ?_) rfl (by kernel_rfl) (by kernel_rfl) (by kernel_rfl) (fun _ _ _ h => h) (Or.inl ⟨by rfl, ?_⟩) ?_
         rotate_left
         ·intro w; go_simp; try with_reducible rfl
         simp only [zn, Act.put]
         refine wpAny_take (i := 13) (v := ?_) rfl (by kernel_rfl) (by kernel_rfl) (by kernel_rfl) (fun _ _ _ h => h) (Or.inl ⟨by rfl, ?_⟩) ?_
         rotate_left
         ·intro w; go_simp; try with_reducible rfl
         simp only [zn, Act.put]
         refine wpAny_done (by kernel_rfl) ?_ _
         go_wp2
         go_ret3
         exact ⟨by rw [HG.out]; rfl, below_of_drew HB7.out⟩
        exact AllReady.nil
       refine AllReady.cons rfl (fun K hK => ?_) ?_
       ·go_simp
        refine hK _ _ ?_
        clear hK K
        try simp only [zn, Act.put]
        refine wpAny_ready (rs := [5]) (by kernel_rfl) (by simp) ?_
        refine AllReady.cons rfl (fun K hK => ?_) ?_
        ·go_simp
         refine hK _ _ ?_
         clear hK K
         try simp only [zn, Act.put]
         refine wpAny_take (i := 12) (v := ?_) rfl (by kernel_rfl) (by kernel_rfl) (by kernel_rfl) (fun _ _ _ h => h) (Or.inl ⟨by rfl, ?_⟩) ?_
         rotate_left
         ·intro w; go_simp; try with_reducible rfl
         simp only [zn, Act.put]
         refine wpAny_take (i := 13) (v := ?_) rfl (by kernel_rfl) (by kernel_rfl) (by kernel_rfl) (fun _ _ _ h => h) (Or.inl ⟨by rfl, ?_⟩) ?_
         rotate_left
         ·intro w; go_simp; try with_reducible rfl
         simp only [zn, Act.put]
         refine wpAny_done (by kernel_rfl) ?_ _
         go_wp2
         go_ret3
         exact ⟨by rw [HG.out]; rfl, below_of_drew HB7.out⟩
        exact AllReady.nil
       exact AllReady.nil
      refine AllReady.cons rfl (fun K hK => ?_) ?_
      ·go_simp
       refine hK _ _ ?_
       clear hK K
       try simp only [zn, Act.put]
       refine wpAny_ready (rs := [4]) (by kernel_rfl) (by simp) ?_
       refine AllReady.cons rfl (fun K hK => ?_) ?_
       ·go_simp
        go_wp2_with (go_at_call 101; go_must (refine (HB.out _).mono ?_; rintro e w7 ⟨u7, rfl, ho7, hb7⟩; have HB7 := Lib.hid hb7; have r71 := run_txt_string (Txt.own (by unfold maxLen; omega) ho7); have r72 := run_txt_string (HSd.out.below hb7); clear ho7 hb7))
        try simp only [zn, Act.put]
        refine wpAny_ready (rs := [5]) (by kernel_rfl) (by simp) ?_
        refine AllReady.cons rfl (fun K hK => ?_) ?_
        ·go_simp
         refine hK _ _ ?_
         clear hK K
         try simp only [zn, Act.put]
         refine wpAny_take (i := 12) (v := ?_) rfl (by kernel_rfl) (by kernel_rfl) (by kernel_rfl) (fun _ _ _ h => h) (Or.inl ⟨by rfl, ?_⟩) ?_
         rotate_left
         ·intro w; go_simp; try with_reducible rfl
         simp only [zn, Act.put]
         refine wpAny_take (i := 13) (v := ?_) rfl (by kernel_rfl) (by kernel_rfl) (by kernel_rfl) (fun _ _ _ h => h) (Or.inl ⟨by rfl, ?_⟩) ?_
         rotate_left
         ·intro w; go_simp; try with_reducible rfl
         simp only [zn, Act.put]
         refine wpAny_done (by kernel_rfl) ?_ _
         go_wp2
         go_ret3
         exact ⟨by rw [HG.out]; rfl, below_of_drew HB7.out⟩
        exact AllReady.nil
       exact AllReady.nil
      exact AllReady.nil
     ·have HG2 := Lib.hid (HR2.out heq)
      have heqb : (l1 == l2) = false := beq_eq_false_iff_ne.2 heq
      go_wp2
      clear hVp hp2 g1 g1' g2 hck hbyte hp0 hp1 hu0 h128 hm1 hO1 g0 hl1 hl2 hs5 hk hjl
      refine wp_region_any (by kernel_rfl) ?_
      try (change wpAny _ _ _ _ _ _ _ (World.drew _))
      refine wpAny_take (i := 0) (v := ?_) rfl (by kernel_rfl) (by kernel_rfl) (by kernel_rfl) (fun _ _ _ h => h) (Or.inl ⟨by rfl, ?_⟩) ?_
      rotate_left
      ·intro w; go_simp; try with_reducible rfl
      simp only [zn, Act.put]
      refine wpAny_take (i := 1) (v := ?_) rfl (by kernel_rfl) (by kernel_rfl) (by kernel_rfl) (fun _ _ _ h => h) (Or.inl ⟨by rfl, ?_⟩) ?_
      rotate_left
      ·intro w; go_simp; try with_reducible rfl
      simp only [zn, Act.put]
      refine wpAny_take (i := 2) (v := ?_) rfl (by kernel_rfl) (by kernel_rfl) (by kernel_rfl) (fun _ _ _ h => h) (Or.inl ⟨by rfl, ?_⟩) ?_
      rotate_left
      ·intro w; go_simp; try with_reducible rfl
      simp only [zn, Act.put]
      refine wpAny_take (i := 3) (v := ?_) rfl (by kernel_rfl) (by kernel_rfl) (by kernel_rfl) (fun _ _ _ h => h) (Or.inl ⟨by rfl, ?_⟩) ?_
      rotate_left
      ·intro w; go_simp; try with_reducible rfl
      simp only [zn, Act.put]
      refine wpAny_take (i := 6) (v := ?_) rfl (by kernel_rfl) (by kernel_rfl) (by kernel_rfl) (fun _ _ _ h => h) (Or.inl ⟨by rfl, ?_⟩) ?_
      rotate_left
      ·intro w; go_simp; try with_reducible rfl
      simp only [zn, Act.put]
      refine wpAny_take (i := 7) (v := ?_) rfl (by kernel_rfl) (by kernel_rfl) (by kernel_rfl) (fun _ _ _ h => h) (Or.inl ⟨by rfl, ?_⟩) ?_
      rotate_left
      ·intro w; go_simp; try with_reducible rfl
      simp only [zn, Act.put]
      refine wpAny_take (i := 8) (v := ?_) rfl (by kernel_rfl) (by kernel_rfl) (by kernel_rfl) (fun _ _ _ h => h) (Or.inl ⟨by rfl, ?_⟩) ?_
      rotate_left
      ·intro w; go_simp; try with_reducible rfl
      simp only [zn, Act.put]
      refine wpAny_take (i := 9) (v := ?_) rfl (by kernel_rfl) (by kernel_rfl) (by kernel_rfl) (fun _ _ _ h => h) (Or.inl ⟨by rfl, ?_⟩) ?_
      rotate_left
      ·intro w; go_simp; try with_reducible rfl
      simp only [zn, Act.put]
      refine wpAny_take (i := 10) (v := ?_) rfl (by kernel_rfl) (by kernel_rfl) (by kernel_rfl) (fun _ _ _ h => h) (Or.inl ⟨by rfl, ?_⟩) ?_
      rotate_left
      ·intro w; go_simp; try with_reducible rfl
      simp only [zn, Act.put]
      refine wpAny_ready (rs := [4, 11]) (by kernel_rfl) (by simp) ?_
      refine AllReady.cons rfl (fun K hK => ?_) ?_
      ·go_simp
       go_wp2_with (go_at_call 101; go_must (refine (HB.out _).mono ?_; rintro e w7 ⟨u7, rfl, ho7, hb7⟩; have HB7 := Lib.hid hb7; have r71 := run_txt_string (Txt.own (by unfold maxLen; omega) ho7); have r72 := run_txt_string (HSd.out.below hb7); clear ho7 hb7))
       try simp only [zn, Act.put]
       refine wpAny_ready (rs := [5, 11]) (by kernel_rfl) (by simp) ?_
       refine AllReady.cons rfl (fun K hK => ?_) ?_
       ·go_simp
        refine hK _ _ ?_
        clear hK K
        try simp only [zn, Act.put]
        refine wpAny_ready (rs := [11]) (by kernel_rfl) (by simp) ?_
        refine AllReady.cons rfl (fun K hK => ?_) ?_
        ·go_simp
         refine hK _ _ ?_
         clear hK K
         try simp only [zn, Act.put]
         refine wpAny_take (i := 12) (v := ?_) rfl (by kernel_rfl) (by kernel_rfl) (by kernel_rfl) (fun _ _ _ h => h) (Or.inl ⟨by rfl, ?_⟩) ?_
         rotate_left
         ·intro w; go_simp; try with_reducible rfl
         simp only [zn, Act.put]
         refine wpAny_take (i := 13) (v := ?_) rfl (by kernel_rfl) (by kernel_rfl) (by kernel_rfl) (fun _ _ _ h => h) (Or.inl ⟨by rfl, ?_⟩) ?_
         rotate_left
         ·intro w; go_simp; try with_reducible rfl
         simp only [zn, Act.put]
         refine wpAny_done (by kernel_rfl) ?_ _
         go_wp2
         go_ret3
         exact ⟨by rw [HG2.out]; rfl, below_of_drew HB7.out⟩
        exact AllReady.nil
       refine AllReady.cons rfl (fun K hK => ?_) ?_
       ·go_simp
        refine hK _ _ ?_
        clear hK K
        try simp only [zn, Act.put]
        refine wpAny_ready (rs := [5]) (by kernel_rfl) (by simp) ?_
        refine AllReady.cons rfl (fun K hK => ?_) ?_
        ·go_simp
         refine hK _ _ ?_
         clear hK K
         try simp only [zn, Act.put]
         refine wpAny_take (i := 12) (v := ?_) rfl (by kernel_rfl) (by kernel_rfl) (by kernel_rfl) (fun _ _ _ h => h) (Or.inl ⟨by rfl, ?_⟩) ?_
         rotate_left
         ·intro w; go_simp; try with_reducible rfl
         simp only [zn, Act.put]
         refine wpAny_take (i := 13) (v := ?_) rfl (by kernel_rfl) (by kernel_rfl) (by kernel_rfl) (fun _ _ _ h => h) (Or.inl ⟨by rfl, ?_⟩) ?_
         rotate_left
         ·intro w; go_simp; try with_reducible rfl
         simp only [zn, Act.put]
         refine wpAny_done (by kernel_rfl) ?_ _
         go_wp2
         go_ret3
         exact ⟨by rw [HG2.out]; rfl, below_of_drew HB7.out⟩
        exact AllReady.nil
       exact AllReady.nil
      refine AllReady.cons rfl (fun K hK => ?_) ?_
      ·go_simp
       refine hK _ _ ?_
       clear hK K
       try simp only [zn, Act.put]
       refine wpAny_ready (rs := [4]) (by kernel_rfl) (by simp) ?_
       refine AllReady.cons rfl (fun K hK => ?_) ?_
       ·go_simp
        go_wp2_with (go_at_call 101; go_must (refine (HB.out _).mono ?_; rintro e w7 ⟨u7, rfl, ho7, hb7⟩; have HB7 := Lib.hid hb7; have r71 := run_txt_string (Txt.own (by unfold maxLen; omega) ho7); have r72 := run_txt_string (HSd.out.below hb7); clear ho7 hb7))
        try simp only [zn, Act.put]
        refine wpAny_ready (rs := [5]) (by kernel_rfl) (by simp) ?_
        refine AllReady.cons rfl (fun K hK => ?_) ?_
        ·go_simp
         refine hK _ _ ?_
         clear hK K
         try simp only [zn, Act.put]
         refine wpAny_take (i := 12) (v := ?_) rfl (by kernel_rfl) (by kernel_rfl) (by kernel_rfl) (fun _ _ _ h => h) (Or.inl ⟨by rfl, ?_⟩) ?_
         rotate_left
         ·intro w; go_simp; try with_reducible rfl
         simp only [zn, Act.put]
         refine wpAny_take (i := 13) (v := ?_) rfl (by kernel_rfl) (by kernel_rfl) (by kernel_rfl) (fun _ _ _ h => h) (Or.inl ⟨by rfl, ?_⟩) ?_
         rotate_left
         ·intro w; go_simp; try with_reducible rfl
         simp only [zn, Act.put]
         refine wpAny_done (by kernel_rfl) ?_ _
         go_wp2
         go_ret3
         exact ⟨by rw [HG2.out]; rfl, below_of_drew HB7.out⟩
        exact AllReady.nil
       exact AllReady.nil
      exact AllReady.nil
  ·have hnone : getSpec xs k = (0, 0, 8) := by
    refine getSpec_none hk ?_
    have e : (xs.drop k).take 5 = (xs.drop k).take s := by
     by_cases h5 : s = 5
     ·rw [h5]
     ·have := HJ.out
      rw [List.take_of_length_le (by rw [List.length_drop]; omega), List.take_of_length_le (by rw [List.length_drop]; omega)]
    rw [e]
    exact HALL.out
   have HN := Lib.hid hnone
   have hnot : ¬ (j < xs.length ∧ (j : Int) < (k : Int) + 5) := by have := HJ.out; omega
   by_cases hl1 : j < xs.length
   ·have g1 : decide ((j : Int) < xs.length) = true := decide_eq_true (by omega)
    have g1' : decide (j < xs.length) = true := decide_eq_true hl1
    have g2 : ¬ (j : Int) < (k : Int) + 5 := by omega
    clear hlt hnot hnone
    go_wp2
    go_ret3
    exact ⟨by rw [HN.out]; rfl, Below.refl _ _⟩
   ·have g1 : decide ((j : Int) < xs.length) = false := decide_eq_false (by omega)
    have g1' : decide (j < xs.length) = false := decide_eq_false hl1
    clear hlt hnot hnone
    go_wp2
    go_ret3
    exact ⟨by rw [HN.out]; rfl, Below.refl _ _⟩

theorem rget_any (v : Value) (xs : List UInt8) (x : Int) (w : World) (hx : Txt w w.heap.size v xs) (hbig : xs.length ≤ 100000) :
  Calls Tryz.prog 82 #[v, .int .i64 x] w fun e W' => e = .returned (.tuple #[.int .i64 (getSpec xs x).1, .int .i64 (getSpec xs x).2.1, .int .i64 (getSpec xs x).2.2]) ∧ Below w.heap.size w W' := by
 by_cases h : x < 0 ∨ (xs.length : Int) < x
 ·have e : getSpec xs x = (0, 0, 2) := by unfold getSpec; rw [if_pos h]
  rw [e]
  exact (rget_arg v xs x w hx h).mono fun e W' ⟨he, hw⟩ => ⟨he, hw ▸ Below.refl _ _⟩
 ·obtain ⟨k, rfl⟩ : ∃ k : Nat, x = k := ⟨x.toNat, by omega⟩
  obtain ⟨A, cap, rfl, h1, h2, h3, h4⟩ := id hx
  by_cases hp : 0 < xs.length
  ·obtain ⟨b, off, rfl, _, _⟩ := h4 hp
   exact rget_some b off cap k xs w hx (by omega) hbig
  ·obtain rfl : xs = [] := List.eq_nil_of_length_eq_zero (by omega)
   obtain rfl : k = 0 := by simpa using h
   rw [getSpec_none (xs := []) (k := 0) (by simp) (by simp)]
   exact rget_empty A cap w
end Go.Proofs.YteloiajocjahmaaGreatDoor
