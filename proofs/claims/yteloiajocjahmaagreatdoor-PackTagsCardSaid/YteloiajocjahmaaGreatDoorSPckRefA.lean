/-
 The document's own package pack: number, ints, Put.
 Conditions: none.
-/
import Derived.Test.YteloiajocjahmaaGreatDoorSGPckM
import Derived.Test.YteloiajocjahmaaGreatDoorSGPckP
import Derived.Test.YteloiajocjahmaaGreatDoorSGCodR
import Derived.BigQuiet
set_option linter.unusedVariables false
set_option linter.unusedSimpArgs false
set_option maxRecDepth 100000
namespace Go.Proofs.YteloiajocjahmaaGreatDoor
open Go.RowKit

theorem putL_len : ∀ l : List Int, NumsOk l → (putL l).length ≤ 5 * l.length
 | [], _ => Nat.le_refl _
 | z :: l, h => by
  rw [putL_cons, List.length_append, List.length_cons]
  have h1 := putL_len l h.tail
  have h2 := h.head
  have h3 := bytesOf_length_le (n := z.toNat) (by omega)
  omega
theorem rnumber_any (v : Value) (l : List Int) (a : Nat) (w : World) (h : IntsIn w w.heap.size v l) (ha : a ≤ 100000) :
  Calls Tryz.prog 44 #[v, .int .i64 (a : Int)] w fun e w' => e = .returned (.int .i64 (l.getD a 0)) ∧ w' = w := by
 obtain ⟨A, c, rfl, hcl, hcm⟩ := h.slice
 obtain ⟨n, hn⟩ : ∃ n, n = l.length := ⟨_, rfl⟩
 have HN := Lib.hid hn
 have HA := Lib.hid (show IntsIn w w.heap.size (.slice A n c) l by rw [hn]; exact h)
 rw [← hn]
 have hml : n ≤ 9223372036854775807 := by unfold maxLen at hcm; omega
 clear hn hcl hcm h
 go_enter Tryz.func44, Tryz.ntmps44
 by_cases hlt : a < n
 ·have d0 : decide ((n : Int) ≤ a) = false := decide_eq_false (by omega)
  have hil : a < l.length := by rw [← HN.out]; exact hlt
  have hlt' : (a : Int) < n := by omega
  obtain ⟨y, hy⟩ : ∃ y, y = l.getD a 0 := ⟨_, rfl⟩
  obtain ⟨bs, os, e2, -, hq1⟩ := ints_atD HA.out hil
  cases e2
  rw [← hy] at hq1 ⊢
  clear hy
  go_wp2_with fail
  go_ret
  exact ⟨rfl, rfl⟩
 ·have d0 : decide ((n : Int) ≤ a) = true := decide_eq_true (by omega)
  have HZ : Hid (l.getD a 0 = 0) := Lib.hid (by rw [List.getD, List.getElem?_eq_none (by rw [← HN.out]; omega)]; rfl)
  go_wp2_with fail
  go_ret
  exact ⟨by rw [HZ.out]; rfl, rfl⟩
theorem rdI_snoc {l : List Int} {a i : Nat} {m : Int} (h1 : (i : Int) < m) (h2 : a + i < l.length) : rdI l a ((i + 1 : Nat) : Int) = rdI l a (i : Int) ++ [l.getD (a + i) 0] := by
 rw [rdI, rdI, Int.toNat_natCast, Int.toNat_natCast, List.take_add_one, List.getElem?_drop, List.getElem?_eq_getElem h2, List.getD, List.getElem?_eq_getElem h2]; rfl
theorem rdI_end {l : List Int} {a i : Nat} {m : Int} (h1 : (i : Int) ≤ m ∨ i = 0) (h2 : i ≤ l.length - a) (h : ¬ ((i : Int) < m ∧ a + i < l.length)) : rdI l a (i : Int) = rdI l a m := by
 rw [rdI, rdI, Int.toNat_natCast]
 by_cases hm : (i : Int) < m
 ·rw [List.take_of_length_le (by rw [List.length_drop]; omega), List.take_of_length_le (by rw [List.length_drop]; omega)]
 ·rw [show m.toNat = i by omega]
set_option maxHeartbeats 4000000 in
theorem rints12_any (v : Value) (l : List Int) (a : Nat) (m : Int) (w : World) (h : IntsIn w w.heap.size v l) (ha : a ≤ 100000) (hl : l.length ≤ 50000) :
  Calls Tryz.prog 83 #[v, .int .i64 (a : Int), .int .i64 m] w fun e w' => ∃ A c k, e = .returned (.slice A k c) ∧ k = (rdI l a m).length ∧ IntsOwn w' w.heap.size (.slice A k c) (rdI l a m) ∧ Below w.heap.size w w' := by
 have HL := Lib.hid hl
 clear hl
 obtain ⟨A, c, rfl, hcl, hcm⟩ := h.slice
 obtain ⟨n, hn⟩ : ∃ n, n = l.length := ⟨_, rfl⟩
 have HN := Lib.hid hn
 have HA := Lib.hid (show IntsIn w w.heap.size (.slice A n c) l by rw [hn]; exact h)
 rw [← hn]
 have hml : n ≤ 9223372036854775807 := by unfold maxLen at hcm; omega
 clear hn hcl hcm h
 go_enter Tryz.func83, Tryz.ntmps83
 go_wp2_with fail
 go_loopw [7, 8] (fun s7 s8 wr => ∃ (i : Nat) (A1 : Option Addr) (c1 : Nat), s8 = .int .i64 i ∧ s7 = .slice A1 i c1 ∧ ((i : Int) ≤ m ∨ i = 0) ∧ i ≤ n - a ∧ IntsOwn wr w.heap.size (.slice A1 i c1) (rdI l a (i : Int)) ∧ Below w.heap.size w wr) (fun _ s8 _ => n - (intOf s8).toNat)
 case atStart => exact ⟨0, none, 0, by go_num, rfl, .inr rfl, by omega, by rw [show rdI l a ((0 : Nat) : Int) = [] by simp [rdI]]; exact ListOwn.nil_, Below.refl _ _⟩
 case round =>
  obtain ⟨i, A1, c1, rfl, rfl, hi, hin, ho, hb⟩ := hrel
  have HO := Lib.hid ho
  have BW := Lib.hid hb
  have HI := Lib.hid hi
  clear ho hb hi
  have hw : IntKind.i64.wrap ((a : Int) + i) = ((a + i : Nat) : Int) := by rw [wrap_id (by omega) (by have := HL.out; have := HN.out; omega)]; omega
  by_cases h1 : (i : Int) < m
  rotate_left
  ·have d0 : decide ((i : Int) < m) = false := decide_eq_false h1
   have HE : Hid (rdI l a (i : Int) = rdI l a m) := Lib.hid (rdI_end HI.out (by rw [← HN.out]; exact hin) fun h => h1 h.1)
   have HK : Hid (i = (rdI l a m).length) := Lib.hid (by rw [← HE.out, rdI_len, Int.toNat_natCast, ← HN.out]; omega)
   go_wp2_with fail
   go_ret
   exact ⟨_, _, _, rfl, HK.out, by rw [← HE.out]; exact HO.out, BW.out⟩
  have d0 : decide ((i : Int) < m) = true := decide_eq_true h1
  by_cases h2 : a + i < n
  rotate_left
  ·have d1 : decide (((a + i : Nat) : Int) < n) = false := decide_eq_false (by omega)
   have HE : Hid (rdI l a (i : Int) = rdI l a m) := Lib.hid (rdI_end HI.out (by rw [← HN.out]; exact hin) fun h => h2 (by have := h.2; rw [← HN.out] at this; exact this))
   have HK : Hid (i = (rdI l a m).length) := Lib.hid (by rw [← HE.out, rdI_len, Int.toNat_natCast, ← HN.out]; omega)
   go_wp2_with fail
   go_ret
   exact ⟨_, _, _, rfl, HK.out, by rw [← HE.out]; exact HO.out, BW.out⟩
  have d1 : decide (((a + i : Nat) : Int) < n) = true := decide_eq_true (by omega)
  have hil : a + i < l.length := by rw [← HN.out]; exact h2
  have hlt' : ((a + i : Nat) : Int) < n := by omega
  obtain ⟨y, hy⟩ : ∃ y, y = l.getD (a + i) 0 := ⟨_, rfl⟩
  obtain ⟨bs, os, e2, hbs, hq1⟩ := ints_atD ((HA.out.below intR BW.out).more intR BW.out.size) hil
  cases e2
  rw [← hy] at hq1
  have NX : Hid (rdI l a (i : Int) ++ [y] = rdI l a ((i + 1 : Nat) : Int)) := Lib.hid (by rw [rdI_snoc h1 hil, ← hy])
  have KL : Hid (i = (rdI l a (i : Int)).length) := Lib.hid (by rw [rdI_len, Int.toNat_natCast, ← HN.out]; omega)
  have hi64 : i ≤ 50000 := by have := HL.out; have := HN.out; omega
  clear hbs hy
  go_wp2_with ((with_reducible show wpList _ _ _ (⟨some 30, _, _, _, _, _⟩ :: _) _ _); refine wpList_append_ints rfl (.tmp 22) (.tmp 29) rfl (lo := w.heap.size) rfl (HO.out.below intR (below_new _ _)) KL.out rfl (ints_alloc _ [y] (by simp)) (i + 1) rfl (by omega) (by have := BW.out.size; simp; omega) ?_; intro A5 c5 w5 ho5 hb5 _; have O5 := Lib.hid ho5; have B5 := Lib.hid hb5; clear ho5 hb5)
  go_roundw
  case measure => simp [intOf]; omega
  case rel => exact ⟨i + 1, A5, c5, by go_num, rfl, .inl (by omega), by omega, by rw [← NX.out]; exact O5.out, BW.out.trans ((below_new _ _).mono BW.out.size |>.trans B5.out)⟩
set_option maxHeartbeats 4000000 in
theorem rput12_any (v : Value) (l : List Int) (w : World) (h : IntsIn w w.heap.size v l) (hk : NumsOk l) (hl : l.length ≤ 10000) :
  Calls Tryz.prog 70 #[v] w fun e w' => ∃ u, e = .returned u ∧ TxtOwn w' w.heap.size u (putL l) ∧ Below w.heap.size w w' := by
 have HL := Lib.hid hl
 have HK := Lib.hid hk
 clear hl hk
 obtain ⟨A, c, rfl, hcl, hcm⟩ := h.slice
 obtain ⟨n, hn⟩ : ∃ n, n = l.length := ⟨_, rfl⟩
 have HN := Lib.hid hn
 have HA := Lib.hid (show IntsIn w w.heap.size (.slice A n c) l by rw [hn]; exact h)
 rw [← hn]
 have hml : n ≤ 9223372036854775807 := by unfold maxLen at hcm; omega
 clear hn hcl hcm h
 have PLE : Hid (∀ m : List Int, (putL m).length ≤ 5 * m.length ∨ ¬ NumsOk m) := Lib.hid (fun m => by
  by_cases hm : NumsOk m
  ·exact .inl (putL_len m hm)
  ·exact .inr hm)
 go_enter Tryz.func70, Tryz.ntmps70
 go_wp2_with fail
 go_loopw [3, 4] (fun s3 s4 wr => ∃ i : Nat, s4 = .int .i64 i ∧ i ≤ n ∧ TxtOwn wr w.heap.size s3 (putL (l.take i)) ∧ Below w.heap.size w wr) (fun _ s4 _ => n - (intOf s4).toNat)
 case atStart => exact ⟨0, by go_num, by omega, by rw [List.take_zero]; exact TxtOwn.nil_, Below.refl _ _⟩
 case round =>
  obtain ⟨i, rfl, hi, ho, hb⟩ := hrel
  have HO := Lib.hid ho
  have BW := Lib.hid hb
  clear ho hb
  by_cases hlt : i < n
  ·have hlt' : (i : Int) < n := by omega
   have hil : i < l.length := by rw [← HN.out]; exact hlt
   obtain ⟨N, hy⟩ : ∃ N : Nat, l.getD i 0 = (N : Int) := ⟨(l.getD i 0).toNat, by have := HK.out (l.getD i 0) (by rw [List.getD, List.getElem?_eq_getElem hil]; exact List.getElem_mem hil); omega⟩
   have HNB : Hid (N ≤ 2147483647) := Lib.hid (by have := HK.out (l.getD i 0) (by rw [List.getD, List.getElem?_eq_getElem hil]; exact List.getElem_mem hil); omega)
   obtain ⟨bs, os, e2, hbs, hq1⟩ := ints_atD ((HA.out.below intR BW.out).more intR BW.out.size) hil
   cases e2
   rw [hy] at hq1
   have NX : Hid (putL (l.take i) ++ bytesOf N = putL (l.take (i + 1))) := Lib.hid (by
    rw [take_snoc hil, putL_snoc]
    congr 2
    rw [List.getD, List.getElem?_eq_getElem hil] at hy
    have : l[i] = (N : Int) := hy
    omega)
   have LE : Hid ((putL (l.take i)).length ≤ 50000) := Lib.hid (by
    rcases PLE.out (l.take i) with h | h
    ·rw [List.length_take] at h
     have := HL.out
     omega
    ·exact absurd (fun z hz => HK.out z (List.mem_of_mem_take hz)) h)
   clear hbs hy
   go_wp2_with fail
   refine (rbytes_any N wr (by have := HNB.out; omega)).mono ?_
   rintro e w5 ⟨u5, rfl, ho5, hb5⟩
   have O5 : Hid (TxtOwn w5 wr.heap.size u5 (bytesOf N)) := Lib.hid ho5
   have B5 := Lib.hid hb5
   have HO5 := Lib.hid (HO.out.below hb5)
   have LB := Lib.hid (bytesOf_length_le HNB.out)
   clear ho5 hb5
   go_wp2_with ((with_reducible show wpList _ _ _ (⟨some 17, _, _, _, _, _⟩ :: _) _ _); refine wpList_append_bytes rfl (.tmp 11) (.tmp 16) rfl rfl HO5.out rfl (O5.out.txt (by have := LB.out; unfold maxLen; omega)) (by have := LB.out; have := LE.out; omega) (Nat.le_trans BW.out.size B5.out.size) ?_; intro v6 w6 ho6 hb6 _; have O6 := Lib.hid ho6; have B6 := Lib.hid hb6; clear ho6 hb6)
   go_roundw
   case measure => simp [intOf]; omega
   case rel => exact ⟨i + 1, by go_num, by omega, by rw [← NX.out]; exact O6.out, BW.out.trans ((B5.out.mono BW.out.size).trans B6.out)⟩
  ·obtain rfl : n = i := by omega
   have hlt' : ¬ (n : Int) < n := by omega
   have HE : Hid (putL (l.take n) = putL l) := Lib.hid (by rw [HN.out, List.take_length])
   go_wp2_with fail
   go_ret
   exact ⟨_, rfl, by rw [← HE.out]; exact HO.out, BW.out⟩
end Go.Proofs.YteloiajocjahmaaGreatDoor
