/-
 The program's package track: ordered.
 Conditions: none.
-/
import Derived.Test.YtemmgmjhomgbbaaGreatVGTrkPA
set_option linter.unusedVariables false
set_option linter.unusedSimpArgs false
set_option maxRecDepth 100000
namespace Go.Proofs.YtemmgmjhomgbbaaGreat
open Go.RowKit

/-- The sections rise, and each may be but for what its ends join. -/
structure OrdT (l : List Sec) : Prop where
 s : ∀ i (h : i < l.length), 1 ≤ l[i].1 ∧ l[i].1 ≤ 99 ∧ shapedB l[i] = true
 k : ∀ i j (hj : j < i) (hi : i < l.length), (l[j]'(by omega)).1 < l[i].1 ∧ ¬ (l[i].2.1 ≠ 0 ∧ (l[j]'(by omega)).2.1 = l[i].2.1)
noncomputable def ordT (l : List Sec) : Bool := @decide (OrdT l) (Classical.propDecidable _)
theorem ordT_true {l : List Sec} (h : OrdT l) : ordT l = true := by rw [ordT]; exact @decide_eq_true _ (Classical.propDecidable _) h
theorem ordT_false {l : List Sec} (h : ¬ OrdT l) : ordT l = false := by rw [ordT]; exact @decide_eq_false _ (Classical.propDecidable _) h
theorem ordT_iff {l : List Sec} : ordT l = true ↔ OrdT l := by rw [ordT]; exact @decide_eq_true_iff _ (Classical.propDecidable _)
/-- The number behind i sections. -/
def LastT (l : List Sec) (i : Nat) (z : Int) : Prop := (i = 0 ∧ z = 0) ∨ ∃ h : i - 1 < l.length, 0 < i ∧ z = l[i - 1].1

set_option maxHeartbeats 8000000 in
theorem ordered_any (v : Value) (l : List Sec) (w : World) (h : SectsIn w w.heap.size v l) :
  Calls Tryz.prog 101 #[v] w fun e w' => e = .returned (.bool (ordT l)) ∧ Below w.heap.size w w' := by
 have H := Lib.hid h
 obtain ⟨A, c, rfl, hcl, hcm⟩ := h.slice
 have hml : l.length ≤ 9223372036854775807 := by unfold maxLen at hcm; omega
 obtain ⟨n, hn⟩ : ∃ n, n = l.length := ⟨_, rfl⟩
 have HN := Lib.hid hn
 have HA := Lib.hid (show SectsIn w w.heap.size (.slice A n c) l by rw [hn]; exact H.out)
 rw [← hn] at hml hcl ⊢
 clear hn H hcm h
 go_enter Tryz.func101, Tryz.ntmps101
 go_wp2_with fail
 go_loopw [3, 11] (fun s3 s11 wr => ∃ (i : Nat) (z : Int), i ≤ n ∧ s11 = .int .i64 i ∧ s3 = .int .i64 z ∧ LastT l i z ∧ (∀ i' (hi : i' < i) (hl : i' < l.length), (1 ≤ l[i'].1 ∧ l[i'].1 ≤ 99 ∧ shapedB l[i'] = true) ∧ ∀ j (hj : j < i'), (l[j]'(by omega)).1 < l[i'].1 ∧ ¬ (l[i'].2.1 ≠ 0 ∧ (l[j]'(by omega)).2.1 = l[i'].2.1)) ∧ Below w.heap.size w wr) (fun _ s11 _ => n - (intOf s11).toNat)
 case atStart => exact ⟨0, 0, by omega, by go_num, by go_num, .inl ⟨rfl, rfl⟩, fun i' hi => absurd hi (by omega), Below.refl _ _⟩
 case round =>
  obtain ⟨i, z, hi, rfl, rfl, hz, hall, hb⟩ := hrel
  have HZ := Lib.hid hz
  have HALL := Lib.hid hall
  have BW := Lib.hid hb
  clear hall hb hz
  by_cases hlt : i < n
  ·have hlt' : (i : Int) < n := by omega
   have hic : (i : Int) ≤ c := by omega
   have hir : i < l.length := by rw [← HN.out]; exact hlt
   have HTK0 := Lib.hid (((HA.out.below secR_ BW.out).more secR_ BW.out.size).take (Nat.le_of_lt hlt))
   obtain ⟨b, off, rfl, hb, hc0, hc1, u, hc2, hu⟩ := ((HA.out.below secR_ BW.out).more secR_ BW.out.size).at hir
   obtain ⟨id, pt, es, hs⟩ : ∃ id pt es, l[i] = (id, pt, es) := ⟨_, _, _, rfl⟩
   have HS := Lib.hid hs
   rw [hs] at hc0 hc1 hu
   dsimp only at hc0 hc1 hu
   obtain ⟨Au, cu, rfl, -, -⟩ := hu.slice
   obtain ⟨ne, hne⟩ : ∃ ne, ne = es.length := ⟨_, rfl⟩
   rw [← hne] at hc2
   have hg0 : wr.cell? ⟨b, off + i * 3, none⟩ = some (.int .i64 id) := hc0
   have hg1 : wr.cell? ⟨b, off + i * 3 + 1, none⟩ = some (.int .i64 pt) := hc1
   have hg2 : wr.cell? ⟨b, off + i * 3 + 2, none⟩ = some (.slice Au ne cu) := hc2
   have HSV : Hid (SecV wr wr.heap.size (.agg #[.int .i64 id, .int .i64 pt, .slice Au ne cu]) (id, pt, es)) := Lib.hid ⟨_, rfl, by rw [hne]; exact hu⟩
   have hx4 := heap_alloc_self wr (.cells #[.int .i64 id, .int .i64 pt, .slice Au ne cu] 60)
   have hb4 := below_new wr (.cells #[.int .i64 id, .int .i64 pt, .slice Au ne cu] 60)
   obtain ⟨q, hq⟩ : ∃ q, q = wr.alloc (.cells #[.int .i64 id, .int .i64 pt, .slice Au ne cu] 60) := ⟨_, rfl⟩
   rw [← hq] at hx4 hb4
   have X4 := Lib.hid hx4
   have B4 := Lib.hid hb4
   have HQ := Lib.hid hq
   have BQ := Lib.hid (BW.out.trans (hb4.mono BW.out.size))
   have HTK := Lib.hid ((HTK0.out.below secR_ hb4).more secR_ hb4.size)
   have HSVQ : Hid (SecV q q.heap.size (.agg #[.int .i64 id, .int .i64 pt, .slice Au ne cu]) (id, pt, es)) := Lib.hid ((HSV.out.below hb4).more hb4.size)
   clear hc0 hc1 hc2 hu hne hs hx4 hb4 hq hb
   go_upto_region 5 with fail
   rw [← HQ.out]
   clear hg0 hg1 hg2 HQ HTK0 HSV
   generalize hp4 : wr.heap.size = p4 at X4 ⊢
   clear hp4
   obtain ⟨k0, k1, k2⟩ := cell3_of X4.out
   by_cases h1 : id ≤ z
   ·have h1d : decide (id ≤ z) = true := decide_eq_true h1
    have HF : Hid (ordT l = false) := Lib.hid (ordT_false fun h => by
     rcases HZ.out with ⟨rfl, hz0⟩ | ⟨hr, hp, hz0⟩
     ·have := (h.s 0 hir).1; rw [HS.out] at this; dsimp only at this; omega
     ·have := (h.k i (i - 1) (by omega) hir).1; rw [HS.out, ← hz0] at this; dsimp only at this; omega)
    clear h1
    go_wp2_with fail
    go_ret
    exact ⟨by rw [HF.out]; rfl, BQ.out⟩
   have h1d : decide (id ≤ z) = false := decide_eq_false h1
   have H1 := Lib.hid h1
   clear h1
   by_cases h2 : 99 < id
   ·have h2d : decide (99 < id) = true := decide_eq_true h2
    have HF : Hid (ordT l = false) := Lib.hid (ordT_false fun h => by have := (h.s i hir).2.1; rw [HS.out] at this; exact absurd this (by omega))
    clear h2
    go_wp2_with fail
    go_ret
    exact ⟨by rw [HF.out]; rfl, BQ.out⟩
   have h2d : decide (99 < id) = false := decide_eq_false h2
   have H2 := Lib.hid h2
   clear h2
   have REST : Hid (¬ (pt ≠ 0 ∧ hasP (l.take i) pt = true) → shapedB (id, pt, es) = true → LastT l (i + 1) id ∧ (∀ i' (hi : i' < i + 1) (hl : i' < l.length), (1 ≤ l[i'].1 ∧ l[i'].1 ≤ 99 ∧ shapedB l[i'] = true) ∧ ∀ j (hj : j < i'), (l[j]'(by omega)).1 < l[i'].1 ∧ ¬ (l[i'].2.1 ≠ 0 ∧ (l[j]'(by omega)).2.1 = l[i'].2.1))) := Lib.hid (fun hp hsh => by
    refine ⟨.inr ⟨hir, by omega, ?_⟩, fun i' hi' hl => ?_⟩
    ·show id = l[i].1
     rw [HS.out]
    ·rcases Nat.lt_or_ge i' i with h | h
     ·exact HALL.out i' h hl
     ·obtain rfl : i' = i := by omega
      have hlast : ∀ j (hj : j < i'), (l[j]'(by omega)).1 ≤ z ∧ 1 ≤ (l[j]'(by omega)).1 := fun j hj => by
       refine ⟨?_, ((HALL.out j hj (by omega)).1).1⟩
       rcases HZ.out with ⟨rfl, hz0⟩ | ⟨hr, hpp, hz0⟩
       ·omega
       ·rcases Nat.lt_or_ge j (i' - 1) with h3 | h3
        ·have := ((HALL.out (i' - 1) (by omega) hr).2 j h3).1
         omega
        ·obtain rfl : j = i' - 1 := by omega
         omega
      have hz1 : 0 ≤ z := by
       rcases HZ.out with ⟨_, hz0⟩ | ⟨hr, hpp, hz0⟩
       ·omega
       ·have := ((HALL.out (i' - 1) (by omega) hr).1).1; omega
      rw [HS.out]
      have g1 := H1.out
      have g2 := H2.out
      refine ⟨⟨by show 1 ≤ id; omega, by show id ≤ 99; omega, hsh⟩, fun j hj => ⟨?_, fun hc => hp ⟨hc.1, ?_⟩⟩⟩
      ·have := (hlast j hj).1; show l[j].1 < id; omega
      ·exact hasP_iff.2 ⟨j, by rw [List.length_take]; omega, by rw [List.getElem_take]; exact hc.2⟩)
   by_cases h3 : pt = 0
   ·have h3b : (pt != 0) = false := by simpa using h3
    have RST := Lib.hid (REST.out (fun h => h.1 h3))
    clear h3 REST
    go_wp2_with fail
    refine (through_ways _ (id, pt, es) q HSVQ.out).mono ?_
    rintro e w2 ⟨rfl, b2⟩
    have B2 := Lib.hid (BQ.out.trans (b2.mono BQ.out.size))
    have X2 := Lib.hid ((b2.block _ (heap_lt X4.out)).trans X4.out)
    clear b2 k0 k1 k2
    have hz0 := below_new w2 (.cells (waysOf (id, pt, es)) 170)
    have hx0 := (hz0.block _ (heap_lt X2.out)).trans X2.out
    obtain ⟨q8, hq8⟩ : ∃ q8, q8 = w2.alloc (.cells (waysOf (id, pt, es)) 170) := ⟨_, rfl⟩
    rw [← hq8] at hz0 hx0
    have H18 := Lib.hid (ways_size (id, pt, es))
    have HI18 := Lib.hid infoWays
    generalize hW : waysOf (id, pt, es) = W18 at hq8 H18 ⊢
    clear hW
    generalize hs : shapedB (id, pt, es) = sh at RST ⊢
    have HSH := Lib.hid hs
    clear hs
    go_upto_region 9 with ((with_reducible show wpList _ _ _ (⟨none, _, _, _, _, _⟩ :: _) _ _); refine wpList_store_row7 (c := ways0) rfl _ (.tmp 7) (.tmp 41) rfl w2.heap.size rfl rfl (heap_alloc_self _ _) (by rw [H18.out.1]; exact HI18.out) (by rw [H18.out.1]; rfl) H18.out.2 ?_; rw [World.setRow_alloc_new])
    rw [← hq8]
    have B8 := Lib.hid (B2.out.trans (hz0.mono B2.out.size))
    have X8 := Lib.hid hx0
    clear hz0 hx0 hq8
    obtain ⟨k0, k1, k2⟩ := cell3_of X8.out
    cases sh with
    | false =>
     have HF : Hid (ordT l = false) := Lib.hid (ordT_false fun h => by have := (h.s i hir).2.2; rw [HS.out, HSH.out] at this; cases this)
     go_wp2_with fail
     go_ret
     exact ⟨by rw [HF.out]; rfl, B8.out⟩
    | true =>
     have RS := Lib.hid (RST.out rfl)
     clear RST
     go_wp2_with fail
     go_roundw
     case measure => simp [intOf]; omega
     case rel => exact ⟨i + 1, id, by omega, by go_num, rfl, RS.out.1, RS.out.2, B8.out⟩
   have h3b : (pt != 0) = true := by simpa using h3
   cases h4 : hasP (l.take i) pt with
   | true =>
    have HF : Hid (ordT l = false) := Lib.hid (ordT_false fun h => by
     obtain ⟨j, hj, he⟩ := hasP_iff.1 h4
     rw [List.length_take] at hj
     rw [List.getElem_take] at he
     have h5 := (h.k i j (by omega) hir).2
     rw [HS.out] at h5
     exact h5 ⟨h3, he⟩)
    clear h3
    have hd4 := h4
    go_wp2_with (refine (containsf_any _ (l.take i) p4 id pt (.slice Au ne cu) q HTK.out X4.out).mono ?_; rintro e w2 ⟨rfl, b2⟩; have B2 := Lib.hid (BQ.out.trans (b2.mono BQ.out.size)); clear b2)
    go_ret
    exact ⟨by rw [HF.out]; rfl, B2.out⟩
   | false =>
    have RST := Lib.hid (REST.out (fun h => by rw [h4] at h; exact absurd h.2 (by decide)))
    have hd4 := h4
    clear h3 REST
    go_upto_region 8 with (refine (containsf_any _ (l.take i) p4 id pt (.slice Au ne cu) q HTK.out X4.out).mono ?_; rintro e w5 ⟨rfl, b5⟩; have B5 := Lib.hid b5; clear b5)
    have BQ5 := Lib.hid (BQ.out.trans (B5.out.mono BQ.out.size))
    have X45 := Lib.hid ((B5.out.block _ (heap_lt X4.out)).trans X4.out)
    have HSV5 := Lib.hid ((HSVQ.out.below B5.out).more B5.out.size)
    clear h4 hd4 k0 k1 k2 BQ X4 HSVQ
    have BQ := BQ5
    have X4 := X45
    clear BQ5 X45 B5
    obtain ⟨k0, k1, k2⟩ := cell3_of X4.out
    go_wp2_with fail
    refine (through_ways _ (id, pt, es) _ HSV5.out).mono ?_
    rintro e w2 ⟨rfl, b2⟩
    have B2 := Lib.hid (BQ.out.trans (b2.mono BQ.out.size))
    have X2 := Lib.hid ((b2.block _ (heap_lt X4.out)).trans X4.out)
    clear b2 k0 k1 k2
    have hz0 := below_new w2 (.cells (waysOf (id, pt, es)) 170)
    have hx0 := (hz0.block _ (heap_lt X2.out)).trans X2.out
    obtain ⟨q8, hq8⟩ : ∃ q8, q8 = w2.alloc (.cells (waysOf (id, pt, es)) 170) := ⟨_, rfl⟩
    rw [← hq8] at hz0 hx0
    have H18 := Lib.hid (ways_size (id, pt, es))
    have HI18 := Lib.hid infoWays
    generalize hW : waysOf (id, pt, es) = W18 at hq8 H18 ⊢
    clear hW
    generalize hs : shapedB (id, pt, es) = sh at RST ⊢
    have HSH := Lib.hid hs
    clear hs
    go_upto_region 9 with ((with_reducible show wpList _ _ _ (⟨none, _, _, _, _, _⟩ :: _) _ _); refine wpList_store_row7 (c := ways0) rfl _ (.tmp 7) (.tmp 41) rfl w2.heap.size rfl rfl (heap_alloc_self _ _) (by rw [H18.out.1]; exact HI18.out) (by rw [H18.out.1]; rfl) H18.out.2 ?_; rw [World.setRow_alloc_new])
    rw [← hq8]
    have B8 := Lib.hid (B2.out.trans (hz0.mono B2.out.size))
    have X8 := Lib.hid hx0
    clear hz0 hx0 hq8
    obtain ⟨k0, k1, k2⟩ := cell3_of X8.out
    cases sh with
    | false =>
     have HF : Hid (ordT l = false) := Lib.hid (ordT_false fun h => by have := (h.s i hir).2.2; rw [HS.out, HSH.out] at this; cases this)
     go_wp2_with fail
     go_ret
     exact ⟨by rw [HF.out]; rfl, B8.out⟩
    | true =>
     have RS := Lib.hid (RST.out rfl)
     clear RST
     go_wp2_with fail
     go_roundw
     case measure => simp [intOf]; omega
     case rel => exact ⟨i + 1, id, by omega, by go_num, rfl, RS.out.1, RS.out.2, B8.out⟩
  ·obtain rfl : i = n := by omega
   have hlt' : ¬ (i : Int) < i := by omega
   have HR : Hid (ordT l = true) := Lib.hid (ordT_true ⟨fun a ha => (HALL.out a (by rw [HN.out]; exact ha) ha).1, fun a b hb ha => (HALL.out a (by rw [HN.out]; exact ha) ha).2 b hb⟩)
   go_wp2_with fail
   go_ret
   exact ⟨by rw [HR.out]; rfl, BW.out⟩

def JndT (l : List Sec) : Prop := ∀ i k (hi : i < l.length), k < l[i].2.2.length → joinedB l l[i] k = true
noncomputable def jndT (l : List Sec) : Bool := @decide (JndT l) (Classical.propDecidable _)
theorem jndT_true {l : List Sec} (h : JndT l) : jndT l = true := by rw [jndT]; exact @decide_eq_true _ (Classical.propDecidable _) h
theorem jndT_false {l : List Sec} (h : ¬ JndT l) : jndT l = false := by rw [jndT]; exact @decide_eq_false _ (Classical.propDecidable _) h
theorem jndT_iff {l : List Sec} : jndT l = true ↔ JndT l := by rw [jndT]; exact @decide_eq_true_iff _ (Classical.propDecidable _)
theorem joined_joins {l : List Sec} {s : Sec} {k : Nat} {a b : Int} (hj : s.2.2.getD k (0, 0) = (a, b)) (h0 : ¬ (a = 0 ∧ b = 0)) (hh : ¬ (a = s.1 ∧ b = (k : Int))) : joinedB l s k = joinsB l (a, b) (s.1, (k : Int)) := by
 rw [joined_case hj, if_neg h0, joinsB]
 dsimp only
 rcases atS_cases l a with ha | ⟨i, hi, ha, hie⟩
 ·rw [if_pos (.inl (by omega)), atB, ha]; rfl
 ·have hB : atB l a = true := by rw [atB, ha]; exact decide_eq_true (by omega)
  have hV : atV l a = l[i] := by rw [atV, hB, if_pos rfl, ha]; simp [List.getD, List.getElem?_eq_getElem hi]
  have hG : l.getD (atS l a).toNat (0, 0, []) = l[i] := by rw [ha]; simp [List.getD, List.getElem?_eq_getElem hi]
  rw [hB, hV, hG, Bool.true_and, ha]
  by_cases hb : 0 ≤ b ∧ b < (l[i].2.2.length : Int)
  ·have hL : leadsB l[i] b = true := decide_eq_true hb
   rw [if_neg (by rintro (h | h | h | h); omega; omega; omega; exact hh h), hL, Bool.true_and, leadsJ, hL, if_pos rfl]
  ·have hL : leadsB l[i] b = false := decide_eq_false hb
   rw [if_pos (by by_cases h1 : b < 0; exact .inr (.inl h1); exact .inr (.inr (.inl (by omega)))), hL]; rfl

set_option maxHeartbeats 8000000 in
theorem joined7_any (v : Value) (l : List Sec) (w : World) (h : SectsIn w w.heap.size v l) (hr : Rises l) (hl16 : l.length ≤ 16) :
  Calls Tryz.prog 102 #[v] w fun e w' => e = .returned (.bool (jndT l)) ∧ Below w.heap.size w w' := by
 have H := Lib.hid h
 have HRI := Lib.hid hr
 obtain ⟨A, c, rfl, -, -⟩ := h.slice
 obtain ⟨n, hn⟩ : ∃ n, n = l.length := ⟨_, rfl⟩
 have HN := Lib.hid hn
 have hml : n ≤ 16 := by omega
 have HA := Lib.hid (show SectsIn w w.heap.size (.slice A n c) l by rw [hn]; exact H.out)
 rw [← hn]
 clear hn H h hr hl16
 go_enter Tryz.func102, Tryz.ntmps102
 go_wp2_with fail
 go_loopw [10] (fun s10 wr => ∃ i : Nat, i ≤ n ∧ s10 = .int .i64 i ∧ (∀ a (ha : a < i) (hl : a < l.length) b, b < l[a].2.2.length → joinedB l l[a] b = true) ∧ Below w.heap.size w wr) (fun s10 _ => n - (intOf s10).toNat)
 case atStart => exact ⟨0, by omega, by go_num, fun a ha => absurd ha (by omega), Below.refl _ _⟩
 case round =>
  obtain ⟨i, hi, rfl, hall, hb⟩ := hrel
  have HALL := Lib.hid hall
  have BW := Lib.hid hb
  clear hall hb
  by_cases hlt : i < n
  ·have hlt' : (i : Int) < n := by omega
   have hir : i < l.length := by rw [← HN.out]; exact hlt
   obtain ⟨b, off, rfl, hb, hc0, hc1, u, hc2, hu⟩ := ((HA.out.below secR_ BW.out).more secR_ BW.out.size).at hir
   obtain ⟨s, hs⟩ : ∃ s, s = l[i] := ⟨_, rfl⟩
   have HS := Lib.hid hs
   rw [← hs] at hc0 hc1 hu
   obtain ⟨id, pt, es⟩ := s
   dsimp only at hc0 hc1 hu
   obtain ⟨Au, cu, rfl, hul, hum⟩ := hu.slice
   obtain ⟨ne, hne⟩ : ∃ ne, ne = es.length := ⟨_, rfl⟩
   have HNE := Lib.hid hne
   have hnm : ne ≤ 9223372036854775807 := by unfold maxLen at hum; omega
   rw [← hne] at hc2
   have hg0 : wr.cell? ⟨b, off + i * 3, none⟩ = some (.int .i64 id) := hc0
   have hg1 : wr.cell? ⟨b, off + i * 3 + 1, none⟩ = some (.int .i64 pt) := hc1
   have hg2 : wr.cell? ⟨b, off + i * 3 + 2, none⟩ = some (.slice Au ne cu) := hc2
   have HJI : Hid (JoinsIn wr wr.heap.size (.slice Au ne cu) es) := Lib.hid (by rw [hne]; exact hu)
   have hx4 := heap_alloc_self wr (.cells #[.int .i64 id, .int .i64 pt, .slice Au ne cu] 60)
   have hb4 := below_new wr (.cells #[.int .i64 id, .int .i64 pt, .slice Au ne cu] 60)
   obtain ⟨q, hq⟩ : ∃ q, q = wr.alloc (.cells #[.int .i64 id, .int .i64 pt, .slice Au ne cu] 60) := ⟨_, rfl⟩
   rw [← hq] at hx4 hb4
   have X4 := Lib.hid hx4
   have HQ := Lib.hid hq
   have BQ := Lib.hid (BW.out.trans (hb4.mono BW.out.size))
   have HJQ := Lib.hid ((HJI.out.below joinR hb4).more joinR hb4.size)
   clear hc0 hc1 hc2 hu hul hum hne hs hx4 hb4 hq hb
   go_upto_region 4 with fail
   rw [← HQ.out]
   clear hg0 hg1 hg2 HQ HJI
   generalize hp4 : wr.heap.size = p4 at X4 ⊢
   clear hp4
   obtain ⟨k0, k1, k2⟩ := cell3_of X4.out
   go_wp2_with fail
   clear k0 k1 k2
   go_loopw [17] (fun s17 wr => ∃ m : Nat, m ≤ ne ∧ s17 = .int .i64 m ∧ (∀ b, b < m → joinedB l (id, pt, es) b = true) ∧ wr.heap[p4]? = some (.cells #[.int .i64 id, .int .i64 pt, .slice Au ne cu] 60 (0, 0)) ∧ JoinsIn wr wr.heap.size (.slice Au ne cu) es ∧ Below w.heap.size w wr) (fun s17 _ => ne - (intOf s17).toNat)
   case atStart => exact ⟨0, by omega, by go_num, fun b hb => absurd hb (by omega), X4.out, HJQ.out, BQ.out⟩
   case round =>
    obtain ⟨m, hm, rfl, hms, hx4, hji, hb⟩ := hrel
    have HMS := Lib.hid hms
    have XX4 := Lib.hid hx4
    have HJM := Lib.hid hji
    have BM := Lib.hid hb
    clear hms hx4 hji hb X4 BQ HJQ BW
    by_cases hmn : m < ne
    ·have hmn' : (m : Int) < ne := by omega
     have hmr : m < es.length := by rw [← HNE.out]; exact hmn
     obtain ⟨be, oe, rfl, hbe, hd0, hd1⟩ := HJM.out.at hmr
     obtain ⟨j1, j2, hj⟩ : ∃ j1 j2, es[m] = (j1, j2) := ⟨_, _, rfl⟩
     rw [hj] at hd0 hd1
     have HJ : Hid (es.getD m (0, 0) = (j1, j2)) := Lib.hid (by rw [← hj]; simp [List.getD, List.getElem?_eq_getElem hmr])
     have hg0 : wr.cell? ⟨be, oe + m * 2, none⟩ = some (.int .i64 j1) := hd0
     have hg1 : wr.cell? ⟨be, oe + m * 2 + 1, none⟩ = some (.int .i64 j2) := hd1
     have hz := two_boxes wr (.cells #[.int .i64 j1, .int .i64 j2] 98) (.cells #[.int .i64 id, .int .i64 (m : Int)] 98)
     obtain ⟨k0, k1, k2⟩ := cell3_of XX4.out
     obtain ⟨q7, hq7⟩ : ∃ q7, q7 = (wr.alloc (.cells #[.int .i64 j1, .int .i64 j2] 98)).alloc (.cells #[.int .i64 id, .int .i64 (m : Int)] 98) := ⟨_, rfl⟩
     rw [← hq7] at hz
     obtain ⟨hz0, hz1, hzb⟩ := hz
     have HQ := Lib.hid hq7
     have k0' : (wr.alloc (.cells #[.int .i64 j1, .int .i64 j2] 98)).cell? ⟨p4, 0, none⟩ = some (.int .i64 id) := (cell3_of (((below_new wr (.cells #[.int .i64 j1, .int .i64 j2] 98)).block _ (heap_lt XX4.out)).trans XX4.out)).1
     clear hj hd0 hd1 hbe hq7
     go_upto_region 8 with fail
     rw [← HQ.out]
     have X6 := Lib.hid hz0
     have X7 := Lib.hid hz1
     have B7 := Lib.hid (BM.out.trans (hzb.mono BM.out.size))
     have Y4 := Lib.hid ((hzb.block _ (heap_lt XX4.out)).trans XX4.out)
     have HJ7 := Lib.hid ((HJM.out.below joinR hzb).more joinR hzb.size)
     generalize hp6 : wr.heap.size = p6 at X6 X7 ⊢
     clear hz0 hz1 hzb HQ k0 k1 k2 k0' hg0 hg1 hp6 XX4 HJM BM
     obtain ⟨k0, k1⟩ := cell2_of X6.out
     obtain ⟨r0, r1⟩ := cell2_of X7.out
     have NEXT : Hid (joinedB l (id, pt, es) m = true → ∀ b, b < m + 1 → joinedB l (id, pt, es) b = true) := Lib.hid (fun h b hb => by
      rcases Nat.lt_or_ge b m with h1 | h1
      ·exact HMS.out b h1
      ·obtain rfl : b = m := by omega
       exact h)
     have FAIL : Hid (joinedB l (id, pt, es) m = false → jndT l = false) := Lib.hid (fun h => jndT_false fun hj => by
      have := hj i m hir (by rw [← HS.out, ← HNE.out]; exact hmn)
      rw [← HS.out, h] at this
      cases this)
     by_cases h0 : j1 = 0 ∧ j2 = 0
     ·have NX := Lib.hid (NEXT.out (by rw [joined_case HJ.out, if_pos h0]))
      obtain ⟨rfl, rfl⟩ := h0
      have he := join_self 0 0
      go_wp2_with fail
      go_roundw
      case measure => simp [intOf]; omega
      case rel => exact ⟨m + 1, by omega, by go_num, NX.out, Y4.out, HJ7.out, B7.out⟩
     ·have he0 := join_ne h0
      by_cases h1 : j1 = id ∧ j2 = (m : Int)
      ·have HF := Lib.hid (FAIL.out (by rw [joined_case HJ.out, if_neg h0, if_pos (.inr (.inr (.inr h1)))]))
       have he1 : ∀ w : World, (Op.equalIn 10000 98 (.agg #[.int .i64 j1, .int .i64 j2]) (.agg #[.int .i64 id, .int .i64 (m : Int)])).run Tryz.prog w = .ok true w := fun w => by rw [h1.1, h1.2]; exact join_self _ _ w
       clear h0 h1
       go_wp2_with fail
       go_ret
       exact ⟨by rw [HF.out]; rfl, B7.out⟩
      ·have he1 := join_ne h1
       have HJJ := Lib.hid (joined_joins (l := l) (s := (id, pt, es)) (k := m) HJ.out h0 h1)
       clear h0 h1
       cases hg : joinsB l (j1, j2) (id, (m : Int)) with
       | false =>
        have HF := Lib.hid (FAIL.out (HJJ.out.trans hg))
        have hgg := hg
        go_wp2_with (refine (joins_any _ l (j1, j2) (id, (m : Int)) q7 ((HA.out.below secR_ B7.out).more secR_ B7.out.size) HRI.out (by rw [← HN.out]; omega)).mono ?_; rintro e w2 ⟨rfl, b2⟩; have B2 := Lib.hid (B7.out.trans (b2.mono B7.out.size)); clear b2)
        go_ret
        exact ⟨by rw [HF.out]; rfl, B2.out⟩
       | true =>
        have NX := Lib.hid (NEXT.out (HJJ.out.trans hg))
        have hgg := hg
        go_wp2_with (refine (joins_any _ l (j1, j2) (id, (m : Int)) q7 ((HA.out.below secR_ B7.out).more secR_ B7.out.size) HRI.out (by rw [← HN.out]; omega)).mono ?_; rintro e w2 ⟨rfl, b2⟩; have B2 := Lib.hid b2; clear b2)
        go_roundw
        case measure => simp [intOf]; omega
        case rel => exact ⟨m + 1, by omega, by go_num, NX.out, (B2.out.block _ (heap_lt Y4.out)).trans Y4.out, (HJ7.out.below joinR B2.out).more joinR B2.out.size, B7.out.trans (B2.out.mono B7.out.size)⟩
    ·obtain rfl : m = ne := by omega
     have hmn' : ¬ (m : Int) < m := by omega
     have HNK : Hid (∀ a (ha : a < i + 1) (hl : a < l.length) b, b < l[a].2.2.length → joinedB l l[a] b = true) := Lib.hid (fun a ha hl b hb => by
      rcases Nat.lt_or_ge a i with h | h
      ·exact HALL.out a h hl b hb
      ·obtain rfl : a = i := by omega
       rw [← HS.out] at hb ⊢
       exact HMS.out b (by rw [HNE.out]; exact hb))
     go_wp2_with fail
     go_roundw
     case measure => simp [intOf]; omega
     case rel => exact ⟨i + 1, by omega, by go_num, HNK.out, BM.out⟩
  ·obtain rfl : i = n := by omega
   have hlt' : ¬ (i : Int) < i := by omega
   have HR : Hid (jndT l = true) := Lib.hid (jndT_true fun a b ha hb => HALL.out a (by rw [HN.out]; exact ha) ha b hb)
   go_wp2_with fail
   go_ret
   exact ⟨by rw [HR.out]; rfl, BW.out⟩

theorem may_three {l : List Sec} : TMay l ↔ l.length ≤ 16 ∧ OrdT l ∧ JndT l := ⟨fun h => ⟨h.n, ⟨h.s, h.k⟩, h.e⟩, fun ⟨a, b, c⟩ => ⟨a, b.s, b.k, c⟩⟩
theorem OrdT.rises {l : List Sec} (h : OrdT l) : Rises l := fun i j hj hi => (h.k i j hj hi).1
set_option maxHeartbeats 4000000 in
theorem pcheck_any (v : Value) (l : List Sec) (w : World) (h : SectsIn w w.heap.size v l) :
  Calls Tryz.prog 84 #[v] w fun e w' => e = .returned (.int .i64 (chkT l)) ∧ Below w.heap.size w w' := by
 have H := Lib.hid h
 obtain ⟨A, c, rfl, hcl, hcm⟩ := h.slice
 obtain ⟨n, hn⟩ : ∃ n, n = l.length := ⟨_, rfl⟩
 have hml : n ≤ 9223372036854775807 := by unfold maxLen at hcm; omega
 have HN := Lib.hid hn
 have H0 : Hid (mayT l = false → chkT l = 8) := Lib.hid (fun h => by rw [chkT, h]; rfl)
 have H1 : Hid (mayT l = true → chkT l = 0) := Lib.hid (fun h => by rw [chkT, h]; rfl)
 rw [← hn] at H ⊢
 clear h hn hcl hcm
 go_enter Tryz.func84, Tryz.ntmps84
 by_cases h16 : 16 < n
 ·have h16' : (16 : Int) < n := by omega
  have HC := Lib.hid (H0.out (mayT_false fun h => by have := h.n; rw [← HN.out] at this; omega))
  go_wp2_with fail
  go_ret
  exact ⟨by rw [HC.out]; rfl, Below.refl _ _⟩
 have h16' : ¬ (16 : Int) < n := by omega
 have L16 : Hid (l.length ≤ 16) := Lib.hid (by rw [← HN.out]; omega)
 cases ho : ordT l with
 | false =>
  have HC := Lib.hid (H0.out (mayT_false fun h => by rw [ordT_true (may_three.1 h).2.1] at ho; cases ho))
  have hoo := ho
  go_wp2_with (refine (ordered_any _ l w H.out).mono ?_; rintro e w2 ⟨rfl, b2⟩; have B2 := Lib.hid b2; clear b2)
  go_ret
  exact ⟨by rw [HC.out]; rfl, B2.out⟩
 | true =>
  have ORD := Lib.hid (ordT_iff.1 ho)
  have hoo := ho
  cases hj : jndT l with
  | false =>
   have HC := Lib.hid (H0.out (mayT_false fun h => by rw [jndT_true (may_three.1 h).2.2] at hj; cases hj))
   have hjj := hj
   go_wp2_with (first | (refine (ordered_any _ l w H.out).mono ?_; rintro e w2 ⟨rfl, b2⟩; have B2 := Lib.hid b2; clear b2) | (refine (joined7_any _ l w2 ((H.out.below secR_ B2.out).more secR_ B2.out.size) ORD.out.rises L16.out).mono ?_; rintro e w3 ⟨rfl, b3⟩; have B3 := Lib.hid (B2.out.trans (b3.mono B2.out.size)); clear b3))
   go_ret
   exact ⟨by rw [HC.out]; rfl, B3.out⟩
  | true =>
   have HC := Lib.hid (H1.out (mayT_true (may_three.2 ⟨L16.out, ORD.out, jndT_iff.1 hj⟩)))
   have hjj := hj
   go_wp2_with (first | (refine (ordered_any _ l w H.out).mono ?_; rintro e w2 ⟨rfl, b2⟩; have B2 := Lib.hid b2; clear b2) | (refine (joined7_any _ l w2 ((H.out.below secR_ B2.out).more secR_ B2.out.size) ORD.out.rises L16.out).mono ?_; rintro e w3 ⟨rfl, b3⟩; have B3 := Lib.hid (B2.out.trans (b3.mono B2.out.size)); clear b3))
   go_ret
   exact ⟨by rw [HC.out]; rfl, B3.out⟩
end Go.Proofs.YtemmgmjhomgbbaaGreat
