/-
 The program's package plan: how many ends a section has, who stands at an end; numbers found in a list.
 Conditions: none.
-/
import Derived.Test.YteloiajocjahmaaGreatDoorSPlnPB
import Derived.Lib.AppendZeros
set_option linter.unusedVariables false
set_option linter.unusedSimpArgs false
set_option maxRecDepth 100000
namespace Go.Proofs.YteloiajocjahmaaGreatDoor
open Go.RowKit

set_option maxHeartbeats 4000000 in
theorem ends_any (v : Value) (l : List Sec) (id : Int) (w : World) (h : SectsIn w w.heap.size v l) :
  Calls Tryz.prog 89 #[v, .int .i64 id] w fun e w' => e = .returned (.int .i64 (endsN l id)) ∧ Below w.heap.size w w' := by
 obtain ⟨A, c, n, rfl, hml, HN, HA⟩ := open_list h
 go_enter Tryz.func89, Tryz.ntmps89
 go_wp2_with fail
 go_loopw [9] (fun s9 wr => ∃ i : Nat, i ≤ n ∧ s9 = .int .i64 i ∧ (∀ j (hj : j < i) (hl : j < l.length), l[j].1 ≠ id) ∧ Below w.heap.size w wr) (fun s9 _ => n - (intOf s9).toNat)
 case atStart => exact ⟨0, by omega, by go_num, fun j hj => absurd hj (by omega), Below.refl _ _⟩
 case round =>
  obtain ⟨i, hi, rfl, hall, hb⟩ := hrel
  have HALL := Lib.hid hall
  have BW := Lib.hid hb
  clear hall hb
  by_cases hlt : i < n
  ·have hlt' : (i : Int) < n := by omega
   have hir : i < l.length := by rw [← HN.out]; exact hlt
   obtain ⟨bk, off, rfl, hbk, hc0, hc1, u, hc2, hu⟩ := ((HA.out.below secR_ BW.out).more secR_ BW.out.size).at hir
   obtain ⟨B3, d3, rfl, hu1, hu2⟩ := hu.slice
   obtain ⟨a, pt, es, hx⟩ : ∃ a pt es, l[i] = (a, pt, es) := ⟨_, _, _, rfl⟩
   have HX := Lib.hid hx
   rw [hx] at hc0 hc1 hc2 hu hu1
   dsimp only at hc0 hc1 hc2 hu hu1
   obtain ⟨m3, e3⟩ : ∃ m, m = es.length := ⟨_, rfl⟩
   rw [← e3] at hc2 hu hu1
   have HM := Lib.hid e3
   have HU := Lib.hid hu
   have hm3 : m3 ≤ 9223372036854775807 := by unfold maxLen at hu2; omega
   have hg0 : wr.cell? ⟨bk, off + i * 3, none⟩ = some (.int .i64 a) := hc0
   have hg1 : wr.cell? ⟨bk, off + i * 3 + 1, none⟩ = some (.int .i64 pt) := hc1
   have hg2 : wr.cell? ⟨bk, off + i * 3 + 2, none⟩ = some (.slice B3 m3 d3) := hc2
   clear hc0 hc1 hc2 hx hbk hu e3 hu1 hu2
   obtain ⟨q, hq⟩ : ∃ x, x = wr.alloc (.cells #[.int .i64 a, .int .i64 pt, .slice B3 m3 d3] 63) := ⟨_, rfl⟩
   have x1 := heap_alloc_self wr (.cells #[.int .i64 a, .int .i64 pt, .slice B3 m3 d3] 63)
   have b1 := below_new wr (.cells #[.int .i64 a, .int .i64 pt, .slice B3 m3 d3] 63)
   rw [← hq] at x1 b1
   go_upto_region 4 with fail
   rw [← hq]
   have X1 := Lib.hid x1
   have B1 := Lib.hid (BW.out.trans (b1.mono BW.out.size))
   generalize wr.heap.size = p1 at X1 ⊢
   clear x1 b1 hq hg0 hg1 hg2
   obtain ⟨k0, k1, k2⟩ := cell3_of X1.out
   have KX : Hid (l[i].1 = a) := Lib.hid (by rw [HX.out])
   by_cases he : a = id
   ·have hd : (a == id) = true := by simpa using he
    have HR : Hid (endsN l id = (m3 : Int)) := Lib.hid (by rw [endsN_some hir (atS_some hir (KX.out.trans he) fun j hj => HALL.out j hj (by omega)), HX.out, HM.out])
    clear he
    go_wp2_with fail
    go_ret
    exact ⟨by rw [HR.out]; rfl, B1.out⟩
   ·have hd : (a == id) = false := by simpa using he
    have NX : Hid (∀ j (hj : j < i + 1) (hl : j < l.length), l[j].1 ≠ id) := Lib.hid (fun j hj hl => by
     rcases Nat.lt_or_ge j i with h | h
     ·exact HALL.out j h hl
     ·obtain rfl : j = i := by omega
      rw [KX.out]; exact he)
    clear he
    go_wp2_with fail
    go_roundw
    case measure => simp [intOf]; omega
    case rel => exact ⟨i + 1, by omega, by go_num, NX.out, B1.out⟩
  ·obtain rfl : i = n := by omega
   have hlt' : ¬ (i : Int) < i := by omega
   have HR : Hid (endsN l id = 0) := Lib.hid (endsN_none (atS_none fun j hj => HALL.out j (by rw [HN.out]; exact hj) hj))
   go_wp2_with fail
   go_ret
   exact ⟨by rw [HR.out]; rfl, BW.out⟩
set_option maxHeartbeats 4000000 in
theorem stands_any (v : Value) (l : List Sg) (sec en : Int) (w : World) (h : SigsIn w w.heap.size v l) :
  Calls Tryz.prog 90 #[v, .int .i64 sec, .int .i64 en] w fun e w' => e = .returned (.int .i64 (standsS l sec en)) ∧ Below w.heap.size w w' := by
 obtain ⟨A, c, n, rfl, hml, HN, HA⟩ := open_list h
 go_enter Tryz.func90, Tryz.ntmps90
 go_wp2_with fail
 go_loopw [11] (fun s11 wr => ∃ i : Nat, i ≤ n ∧ s11 = .int .i64 i ∧ (∀ j (hj : j < i) (hl : j < l.length), ¬ (l[j].2.1 = sec ∧ l[j].2.2 = en)) ∧ Below w.heap.size w wr) (fun s11 _ => n - (intOf s11).toNat)
 case atStart => exact ⟨0, by omega, by go_num, fun j hj => absurd hj (by omega), Below.refl _ _⟩
 case round =>
  obtain ⟨i, hi, rfl, hall, hb⟩ := hrel
  have HALL := Lib.hid hall
  have BW := Lib.hid hb
  clear hall hb
  by_cases hlt : i < n
  ·have hlt' : (i : Int) < n := by omega
   have hir : i < l.length := by rw [← HN.out]; exact hlt
   obtain ⟨bk, off, rfl, hbk, hc0, hc1, hc2⟩ := ((HA.out.below sigR BW.out).more sigR BW.out.size).at hir
   obtain ⟨a, b, c_, hx⟩ : ∃ a b c, l[i] = (a, b, c) := ⟨_, _, _, rfl⟩
   have HX := Lib.hid hx
   rw [hx] at hc0 hc1 hc2
   have hg0 : wr.cell? ⟨bk, off + i * 3, none⟩ = some (.int .i64 a) := hc0
   have hg1 : wr.cell? ⟨bk, off + i * 3 + 1, none⟩ = some (.int .i64 b) := hc1
   have hg2 : wr.cell? ⟨bk, off + i * 3 + 2, none⟩ = some (.int .i64 c_) := hc2
   clear hc0 hc1 hc2 hx hbk
   obtain ⟨q, hq⟩ : ∃ x, x = wr.alloc (.cells #[.int .i64 a, .int .i64 b, .int .i64 c_] 59) := ⟨_, rfl⟩
   have x1 := heap_alloc_self wr (.cells #[.int .i64 a, .int .i64 b, .int .i64 c_] 59)
   have b1 := below_new wr (.cells #[.int .i64 a, .int .i64 b, .int .i64 c_] 59)
   rw [← hq] at x1 b1
   go_upto_region 4 with fail
   rw [← hq]
   have X1 := Lib.hid x1
   have B1 := Lib.hid (BW.out.trans (b1.mono BW.out.size))
   generalize wr.heap.size = p1 at X1 ⊢
   clear x1 b1 hq hg0 hg1 hg2
   obtain ⟨k0, k1, k2⟩ := cell3_of X1.out
   have NX : Hid (¬ (b = sec ∧ c_ = en) → ∀ j (hj : j < i + 1) (hl : j < l.length), ¬ (l[j].2.1 = sec ∧ l[j].2.2 = en)) := Lib.hid (fun h0 j hj hl => by
    rcases Nat.lt_or_ge j i with h | h
    ·exact HALL.out j h hl
    ·obtain rfl : j = i := by omega
     rw [HX.out]; exact h0)
   by_cases h1 : b = sec
   ·have d1 : (b == sec) = true := by simpa using h1
    by_cases h2 : c_ = en
    ·have d2 : (c_ == en) = true := by simpa using h2
     have HR : Hid (standsS l sec en = a) := Lib.hid (by rw [stands_some hir (by rw [HX.out]; exact ⟨h1, h2⟩) (fun j hj => HALL.out j hj (by omega)), HX.out])
     clear h1 h2 NX
     go_wp2_with fail
     go_ret
     exact ⟨by rw [HR.out]; rfl, B1.out⟩
    ·have d2 : (c_ == en) = false := by simpa using h2
     have NN := Lib.hid (NX.out (fun h => h2 h.2))
     clear h1 h2 NX
     go_wp2_with fail
     go_roundw
     case measure => simp [intOf]; omega
     case rel => exact ⟨i + 1, by omega, by go_num, NN.out, B1.out⟩
   ·have d1 : (b == sec) = false := by simpa using h1
    have NN := Lib.hid (NX.out (fun h => h1 h.1))
    clear h1 NX
    go_wp2_with fail
    go_roundw
    case measure => simp [intOf]; omega
    case rel => exact ⟨i + 1, by omega, by go_num, NN.out, B1.out⟩
  ·obtain rfl : i = n := by omega
   have hlt' : ¬ (i : Int) < i := by omega
   have HR : Hid (standsS l sec en = 0) := Lib.hid (stands_none fun j hj => HALL.out j (by rw [HN.out]; exact hj) hj)
   go_wp2_with fail
   go_ret
   exact ⟨by rw [HR.out]; rfl, BW.out⟩
set_option maxHeartbeats 4000000 in
theorem index_any (v : Value) (l : List Int) (x : Int) (w : World) (h : IntsIn w w.heap.size v l) :
  Calls Tryz.prog 129 #[v, .int .i64 x] w fun e w' => e = .returned (.int .i64 (at1 (fun z => z) l x)) ∧ w = w' := by
 obtain ⟨A, c, n, rfl, hml, HN, HA⟩ := open_list h
 go_enter Tryz.func129, Tryz.ntmps129
 go_wp2_with fail
 go_loopw [8] (fun s8 wr => ∃ i : Nat, i ≤ n ∧ s8 = .int .i64 i ∧ (∀ j (hj : j < i) (hl : j < l.length), l[j] ≠ x) ∧ wr = w) (fun s8 _ => n - (intOf s8).toNat)
 case atStart => exact ⟨0, by omega, by go_num, fun j hj => absurd hj (by omega), rfl⟩
 case round =>
  obtain ⟨i, hi, rfl, hall, rfl⟩ := hrel
  have HALL := Lib.hid hall
  clear hall
  by_cases hlt : i < n
  ·have hlt' : (i : Int) < n := by omega
   have hir : i < l.length := by rw [← HN.out]; exact hlt
   obtain ⟨bk, off, rfl, hbk, hc0⟩ := HA.out.at hir
   obtain ⟨z, hz⟩ : ∃ z, z = l[i] := ⟨_, rfl⟩
   have hcell : wr.cell? ⟨bk, off + i, none⟩ = some (.int .i64 z) := by rw [hz]; simpa [IntR] using hc0
   have HZ := Lib.hid hz
   clear hc0 hz
   by_cases he : x = z
   ·have hd : (x == z) = true := by simpa using he
    have HR : Hid (at1 (fun z => z) l x = (i : Int)) := Lib.hid (at1_some hir (HZ.out.symm.trans he.symm) fun j hj => HALL.out j hj (by omega))
    clear he
    go_wp2_with fail
    go_ret
    exact ⟨by rw [HR.out]; rfl, rfl⟩
   ·have hd : (x == z) = false := by simpa using he
    have NX : Hid (∀ j (hj : j < i + 1) (hl : j < l.length), l[j] ≠ x) := Lib.hid (fun j hj hl => by
     rcases Nat.lt_or_ge j i with h | h
     ·exact HALL.out j h hl
     ·obtain rfl : j = i := by omega
      exact fun h2 => he (h2.symm.trans HZ.out.symm))
    clear he
    go_wp2_with fail
    go_roundw
    case measure => simp [intOf]; omega
    case rel => exact ⟨i + 1, by omega, by go_num, NX.out, trivial⟩
  ·obtain rfl : i = n := by omega
   have hlt' : ¬ (i : Int) < i := by omega
   have HR : Hid (at1 (fun z => z) l x = -1) := Lib.hid (at1_none fun j hj => HALL.out j (by rw [HN.out]; exact hj) hj)
   go_wp2_with fail
   go_ret
   exact ⟨by rw [HR.out]; rfl, rfl⟩
def inB (l : List Int) (x : Int) : Bool := decide (0 ≤ at1 (fun z => z) l x)
theorem inB_true {l : List Int} {x : Int} : inB l x = true ↔ ∃ j, ∃ hj : j < l.length, l[j] = x := by
 rw [inB, decide_eq_true_iff]
 rcases at1_cases (fun z : Int => z) l x with ⟨h1, h2⟩ | ⟨i, hi, h1, h2, h3⟩
 ·exact ⟨fun h => by omega, fun ⟨j, hj, e⟩ => absurd e (h2 j hj)⟩
 ·exact ⟨fun h => ⟨i, hi, h2⟩, fun _ => by omega⟩
theorem contains_any (v : Value) (l : List Int) (x : Int) (w : World) (h : IntsIn w w.heap.size v l) :
  Calls Tryz.prog 119 #[v, .int .i64 x] w fun e w' => e = .returned (.bool (inB l x)) ∧ w = w' := by
 have H := Lib.hid h
 obtain ⟨A, c, rfl, -, -⟩ := h.slice
 clear h
 have HI : Hid (inB l x = decide (0 ≤ at1 (fun z => z) l x)) := Lib.hid rfl
 go_enter Tryz.func119, Tryz.ntmps119
 go_wp2_with ((with_reducible show Calls _ _ _ _ _); refine (index_any _ l x _ H.out).mono ?_; rintro e w' ⟨rfl, rfl⟩; generalize at1 (fun z => z) l x = y at HI ⊢)
 go_ret
 exact ⟨by rw [HI.out]; rfl, rfl⟩

theorem run_grow (n : Nat) (h1 : 1 ≤ n) (hn : n ≤ 1000) (w : World) : ∃ cp w', (∀ ty : TypeId, (Builtin.append_ #[41, 3] ty #[.slice none 0 0, .int .i64 n]).run Tryz.prog w = .ok (.slice (some ⟨w.heap.size, 0, none⟩) n cp) w') ∧ n ≤ cp ∧ cp ≤ maxLen ∧ w'.ownsRow w.heap.size 3 1 (.slice (some ⟨w.heap.size, 0, none⟩) 0 cp) 0 [] ∧ Below w.heap.size w w' := by
 obtain ⟨i0, hi, hz0, hz1, hz2⟩ := info_parts infoInt
 have hge := grownCap_ge w n 0 3
 have hcm : grownCap w n 0 3 ≤ maxLen := grownCap_le_maxLen w n 0 3 (by unfold maxLen; omega)
 refine ⟨_, _, fun ty => Lib.run_append_nil_zeros w 41 3 ty 3 i0 _ .i64 .i64 Tryz.underlying41 Tryz.underlying3 hi hz0 n h1 (by rw [hz1]; omega) (by omega) (by rw [hz2]; omega), hge, hcm, ⟨rfl, .inr ⟨w.heap.size, _, _, rfl, Nat.le_refl _, heap_alloc_new w.drew _, Nat.zero_le _, hcm, ?_, ?_⟩⟩, (Below.refl _ w).drew.alloc (Nat.le_refl _) _⟩
 ·simp only [Array.size_append, size_zeroCells, Value.cells]
  simp; omega
 ·simp
set_option maxHeartbeats 4000000 in
theorem grow_any (n : Nat) (h1 : 1 ≤ n) (hn : n ≤ 1000) (w : World) :
  Calls Tryz.prog 128 #[.slice none 0 0, .int .i64 n] w fun e w' => ∃ A c, e = .returned (.slice A 0 c) ∧ w'.ownsRow w.heap.size 3 1 (.slice A 0 c) 0 [] ∧ Below w.heap.size w w' := by
 obtain ⟨cp, w1, hrun, hcp, hcx, hown, hb⟩ := run_grow n h1 hn w
 have RUN := Lib.hid hrun
 have OWN := Lib.hid hown
 have BB := Lib.hid hb
 have hw : IntKind.i64.wrap (n : Int) = n := wrap_id (by omega) (by omega)
 have hneg : ¬ (n : Int) < 0 := by omega
 have hpos : (0 : Int) < n := by omega
 have hcpb : cp ≤ 9223372036854775807 := by unfold maxLen at hcx; omega
 clear hrun hown hb hcx h1 hn
 go_enter Tryz.func128, Tryz.ntmps128
 go_wp2_with ((with_reducible show wpList _ _ _ (⟨some 22, _, _, _, _, _⟩ :: _) _ _); refine Lib.wpList_append_run _ rfl (.tmp 20) (.tmp 21) _ _ rfl _ _ rfl rfl _ _ (RUN.out _) ?_)
 go_ret
 exact ⟨_, _, rfl, OWN.out, BB.out⟩
set_option maxHeartbeats 8000000 in
theorem concat_any (b : Nat) (A B : Option Addr) (n c k d : Nat) (l m : List Int) (w : World) (hb : w.heap[b]? = some (.cells #[.slice A n c, .slice B k d] 41 (0, 0)))
  (h1 : IntsIn w w.heap.size (.slice A n c) l) (h2 : IntsIn w w.heap.size (.slice B k d) m) (hn : n = l.length) (hk : k = m.length) (hp : 1 ≤ n + k) (hnk : n + k ≤ 1000) :
  Calls Tryz.prog 118 #[.slice (some ⟨b, 0, none⟩) 2 2] w fun e w' => ∃ A' c' N, e = .returned (.slice A' N c') ∧ N = (l ++ m).length ∧ IntsIn w' w'.heap.size (.slice A' N c') (l ++ m) ∧ Below w.heap.size w w' := by
 have X := Lib.hid hb
 have H1 := Lib.hid h1
 have H2 := Lib.hid h2
 have HLN : Hid (n = l.length ∧ k = m.length) := Lib.hid ⟨hn, hk⟩
 have HPK : Hid (1 ≤ n + k ∧ n + k ≤ 1000) := Lib.hid ⟨hp, hnk⟩
 obtain ⟨N, hN⟩ : ∃ N, N = n + k := ⟨_, rfl⟩
 have HN := Lib.hid hN
 have hw1 : IntKind.i64.wrap (n : Int) = n := wrap_id (by omega) (by omega)
 have hw2 : IntKind.i64.wrap ((n : Int) + k) = (N : Int) := by rw [wrap_id (by omega) (by omega)]; omega
 have hb1 : n ≤ 9223372036854775807 := by omega
 have hb2 : k ≤ 9223372036854775807 := by omega
 have hd1 : ¬ (n : Int) < 0 := by omega
 have hd2 : ¬ (N : Int) < 0 := by omega
 obtain ⟨i0, hi, hz0, hz1, hz2⟩ := info_parts infoInt
 have I0 := Lib.hid hi
 have I1 := Lib.hid hz0
 have I2 := Lib.hid hz1
 have I3 := Lib.hid hz2
 clear hi hz0 hz1 hz2 hb h1 h2 hn hk hp hnk hN
 have TOT : Hid (∀ i : Nat, i ≤ 2 → i = 0 ∨ i = 1 ∨ i = 2) := Lib.hid (fun i h => by omega)
 go_enter Tryz.func118, Tryz.ntmps118
 go_wp2_with fail
 go_loopw [3, 11] (fun s3 s11 wr => wr = w ∧ ((s11 = .int .i64 0 ∧ s3 = .int .i64 0) ∨ (s11 = .int .i64 1 ∧ s3 = .int .i64 n) ∨ (s11 = .int .i64 2 ∧ s3 = .int .i64 N))) (fun _ s11 _ => 2 - (intOf s11).toNat)
 case atStart => exact ⟨rfl, .inl ⟨rfl, rfl⟩⟩
 case round =>
  obtain ⟨rfl, hc⟩ := hrel
  rcases hc with ⟨rfl, rfl⟩ | ⟨rfl, rfl⟩ | ⟨rfl, rfl⟩
  ·obtain ⟨k0, k1⟩ := cell2_of X.out
   go_wp2_with fail
   go_roundw
   case measure => simp [intOf]
   case rel => exact ⟨trivial, .inr (.inl ⟨by go_num, by go_num⟩)⟩
  ·obtain ⟨k0, k1⟩ := cell2_of X.out
   go_wp2_with fail
   go_roundw
   case measure => simp [intOf]
   case rel => exact ⟨trivial, .inr (.inr ⟨by go_num, by go_num⟩)⟩
  ·go_wp2_with fail
   refine (grow_any N (by have := HPK.out; have := HN.out; omega) (by have := HPK.out; have := HN.out; omega) _).mono ?_
   rintro e w1 ⟨A1, c1, rfl, hown, b1⟩
   have O1 : Hid (ListOwn 3 1 IntR w1 wr.heap.size (.slice A1 0 c1) ([] : List Int)) := Lib.hid ⟨[], hown, rfl, Nat.zero_le _, (fun _ h => by cases h), fun j ys x h => by simp at h⟩
   have B1 := Lib.hid b1
   clear hown b1
   go_wp2_with fail
   go_loopw [6, 27] (fun s6 s27 ww => Below wr.heap.size wr ww ∧ ∃ A6 c6, (s27 = .int .i64 0 ∧ s6 = .slice A6 0 c6 ∧ ListOwn 3 1 IntR ww wr.heap.size (.slice A6 0 c6) ([] : List Int)) ∨ (s27 = .int .i64 1 ∧ s6 = .slice A6 n c6 ∧ ListOwn 3 1 IntR ww wr.heap.size (.slice A6 n c6) l) ∨ (s27 = .int .i64 2 ∧ s6 = .slice A6 N c6 ∧ ListOwn 3 1 IntR ww wr.heap.size (.slice A6 N c6) (l ++ m))) (fun _ s27 _ => 2 - (intOf s27).toNat)
   case atStart => exact ⟨B1.out, _, _, .inl ⟨rfl, rfl, O1.out⟩⟩
   case round =>
    obtain ⟨hbw, A6, c6, hc⟩ := hrel
    have BW := Lib.hid hbw
    have XW := Lib.hid ((hbw.block _ (heap_lt X.out)).trans X.out)
    clear hbw O1 B1
    rcases hc with ⟨rfl, rfl, how⟩ | ⟨rfl, rfl, how⟩ | ⟨rfl, rfl, how⟩
    ·have OW := Lib.hid how
     clear how
     obtain ⟨k0, k1⟩ := cell2_of XW.out
     obtain ⟨zss, hy1, hy2, hy3, hy4, hy5, hy6, hy7⟩ := (((H1.out).below intR BW.out).more intR BW.out.size).cells (by omega) intR_full intR_cells
     obtain ⟨yss, ho, hl, hmx, hs2, hr⟩ := OW.out
     have Y1 := Lib.hid hy1
     have Y2 := Lib.hid hy2
     have Y3 := Lib.hid hy3
     have Y4 := Lib.hid hy4
     have Y6 := Lib.hid hy6
     have Y7 := Lib.hid hy7
     have Z0 := Lib.hid ho
     have Z1 := Lib.hid hl
     have Z2 := Lib.hid hs2
     have Z3 := Lib.hid hr
     have YL : Hid (zss.flatten.length = n * 1) := Lib.hid (by rw [flat_length _ hy2, hy1, HLN.out.1])
     clear hy1 hy2 hy3 hy4 hy5 hy6 hy7 ho hl hmx hs2 hr
     go_wp2_with ((with_reducible show wpList _ _ _ (⟨some 33, _, _, _, _, _⟩ :: _) _ _); refine wpList_append_list rfl (.tmp 31) (.tmp 32) _ rfl Tryz.underlying41 I0.out I1.out rfl I2.out (by decide) I3.out (by decide) rfl (by have := Z0.out; rw [show ([] : List Int).length = 0 from rfl] at this; exact this) rfl YL.out Y4.out Y7.out Y6.out (by have := HPK.out; omega) BW.out.size ?_; intro v3 w3 hown3 hgrow3; rw [Nat.zero_add] at hown3; obtain ⟨A3, c3, rfl⟩ := own_sliceN hown3; have O3 := Lib.hid hown3; have B3 := Lib.hid (BW.out.grown hgrow3 BW.out.size (own_ge Z0.out)); clear hown3 hgrow3)
     have OC := Lib.hid (own_cat (R := IntR) (sz := 1) intF O3.out (by rw [show ([] : List Int).length = 0 from rfl, Nat.zero_add]; exact HLN.out.1) Z1.out Y1.out Z2.out Y2.out Z3.out Y3.out (by have := HPK.out; have := HN.out; unfold maxLen; omega))
     go_roundw
     case measure => simp [intOf]
     case rel => exact ⟨B3.out, _, _, .inr (.inl ⟨by go_num, rfl, OC.out⟩)⟩
    ·have OW := Lib.hid how
     clear how
     obtain ⟨k0, k1⟩ := cell2_of XW.out
     obtain ⟨zss, hy1, hy2, hy3, hy4, hy5, hy6, hy7⟩ := (((H2.out).below intR BW.out).more intR BW.out.size).cells (by omega) intR_full intR_cells
     obtain ⟨yss, ho, hl, hmx, hs2, hr⟩ := OW.out
     have Y1 := Lib.hid hy1
     have Y2 := Lib.hid hy2
     have Y3 := Lib.hid hy3
     have Y4 := Lib.hid hy4
     have Y6 := Lib.hid hy6
     have Y7 := Lib.hid hy7
     have Z0 := Lib.hid ho
     have Z1 := Lib.hid hl
     have Z2 := Lib.hid hs2
     have Z3 := Lib.hid hr
     have YL : Hid (zss.flatten.length = k * 1) := Lib.hid (by rw [flat_length _ hy2, hy1, HLN.out.2])
     clear hy1 hy2 hy3 hy4 hy5 hy6 hy7 ho hl hmx hs2 hr
     go_wp2_with ((with_reducible show wpList _ _ _ (⟨some 33, _, _, _, _, _⟩ :: _) _ _); refine wpList_append_list rfl (.tmp 31) (.tmp 32) _ rfl Tryz.underlying41 I0.out I1.out rfl I2.out (by decide) I3.out (by decide) rfl (by have := Z0.out; rw [← HLN.out.1] at this; exact this) rfl YL.out Y4.out Y7.out Y6.out (by have := HPK.out; omega) BW.out.size ?_; intro v3 w3 hown3 hgrow3; rw [← HN.out] at hown3; obtain ⟨A3, c3, rfl⟩ := own_sliceN hown3; have O3 := Lib.hid hown3; have B3 := Lib.hid (BW.out.grown hgrow3 BW.out.size (own_ge Z0.out)); clear hown3 hgrow3)
     have OC := Lib.hid (own_cat (R := IntR) (sz := 1) intF O3.out (by rw [← HLN.out.1, ← HLN.out.2]; exact HN.out) Z1.out Y1.out Z2.out Y2.out Z3.out Y3.out (by have := HPK.out; have := HN.out; unfold maxLen; omega))
     go_roundw
     case measure => simp [intOf]
     case rel => exact ⟨B3.out, _, _, .inr (.inr ⟨by go_num, rfl, OC.out⟩)⟩
    ·have OW := Lib.hid how
     clear how
     go_wp2_with fail
     go_ret
     exact ⟨_, _, _, rfl, by rw [List.length_append, ← HLN.out.1, ← HLN.out.2]; exact HN.out, OW.out.in_ intR_cells, BW.out⟩
end Go.Proofs.YteloiajocjahmaaGreatDoor
