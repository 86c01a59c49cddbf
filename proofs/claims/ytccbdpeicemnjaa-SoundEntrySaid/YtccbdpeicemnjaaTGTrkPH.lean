/-
 The program's package track: ordered.
 Conditions: none.
-/
import Derived.Test.YtccbdpeicemnjaaTGTrkPA
set_option linter.unusedVariables false
set_option linter.unusedSimpArgs false
set_option maxRecDepth 100000
namespace Go.Proofs.Ytccbdpeicemnjaa
open Go.RowKit

/-- The sections rise, and each may be but for what its ends join. -/
structure OrdT (l : List Sec) : Prop where
 s : ∀ i (h : i < l.length), 1 ≤ l[i].1 ∧ l[i].1 ≤ 99 ∧ shapedB l[i] = true
 k : ∀ i j (hj : j < i) (hi : i < l.length), (l[j]'(by omega)).1 < l[i].1 ∧ ¬ (l[i].2.1 ≠ 0 ∧ (l[j]'(by omega)).2.1 = l[i].2.1)
noncomputable def ordT (l : List Sec) : Bool := @decide (OrdT l) (Classical.propDecidable _)
theorem ordT_true {l : List Sec} (h : OrdT l) : ordT l = true := by rw [ordT]; exact @decide_eq_true _ (Classical.propDecidable _) h
theorem ordT_false {l : List Sec} (h : ¬ OrdT l) : ordT l = false := by rw [ordT]; exact @decide_eq_false _ (Classical.propDecidable _) h
theorem ordT_iff {l : List Sec} : ordT l = true ↔ OrdT l := by rw [ordT]; exact @decide_eq_true_iff _ (Classical.propDecidable _)
/-- The number behind i sections. -/
def LastT (l : List Sec) (i : Nat) (z : Int) : Prop := (i = 0 ∧ z = 0) ∨ ∃ h : i - 1 < l.length, 0 < i ∧ z = l[i - 1].1

set_option maxHeartbeats 8000000 in
theorem ordered_any (v : Value) (l : List Sec) (w : World) (h : SectsIn w w.heap.size v l) :
  Calls Try.prog 63 #[v] w fun e w' => e = .returned (.bool (ordT l)) ∧ Below w.heap.size w w' := by
 have H := Lib.hid h
 obtain ⟨A, c, rfl, hcl, hcm⟩ := h.slice
 have hml : l.length ≤ 9223372036854775807 := by unfold maxLen at hcm; omega
 obtain ⟨n, hn⟩ : ∃ n, n = l.length := ⟨_, rfl⟩
 have HN := Lib.hid hn
 have HA := Lib.hid (show SectsIn w w.heap.size (.slice A n c) l by rw [hn]; exact H.out)
 rw [← hn] at hml hcl ⊢
 clear hn H hcm h
 go_enter Try.func63, Try.ntmps63
 go_wp2_with fail
 go_loopw [3, 11] (fun s3 s11 wr => ∃ (i : Nat) (z : Int), i ≤ n ∧ s11 = .int .i64 i ∧ s3 = .int .i64 z ∧ LastT l i z ∧ (∀ i' (hi : i' < i) (hl : i' < l.length), (1 ≤ l[i'].1 ∧ l[i'].1 ≤ 99 ∧ shapedB l[i'] = true) ∧ ∀ j (hj : j < i'), (l[j]'(by omega)).1 < l[i'].1 ∧ ¬ (l[i'].2.1 ≠ 0 ∧ (l[j]'(by omega)).2.1 = l[i'].2.1)) ∧ Below w.heap.size w wr) (fun _ s11 _ => n - (intOf s11).toNat)
 case atStart => exact ⟨0, 0, by omega, by go_num, by go_num, .inl ⟨rfl, rfl⟩, fun i' hi => absurd hi (by omega), Below.refl _ _⟩
 case round =>
  obtain ⟨i, z, hi, rfl, rfl, hz, hall, hb⟩ := hrel
  have HZ := Lib.hid hz
  have HALL := Lib.hid hall
  have BW := Lib.hid hb
  clear hall hb hz
  by_cases hlt : i < n
  ·have hlt' : (i : Int) < n := by omega
   have hic : (i : Int) ≤ c := by omega
   have hir : i < l.length := by rw [← HN.out]; exact hlt
   have HTK0 := Lib.hid (((HA.out.below secR_ BW.out).more secR_ BW.out.size).take (Nat.le_of_lt hlt))
   obtain ⟨b, off, rfl, hb, hc0, hc1, u, hc2, hu⟩ := ((HA.out.below secR_ BW.out).more secR_ BW.out.size).at hir
   obtain ⟨id, pt, es, hs⟩ : ∃ id pt es, l[i] = (id, pt, es) := ⟨_, _, _, rfl⟩
   have HS := Lib.hid hs
   rw [hs] at hc0 hc1 hu
   dsimp only at hc0 hc1 hu
   obtain ⟨Au, cu, rfl, -, -⟩ := hu.slice
   obtain ⟨ne, hne⟩ : ∃ ne, ne = es.length := ⟨_, rfl⟩
   rw [← hne] at hc2
   have hg0 : wr.cell? ⟨b, off + i * 3, none⟩ = some (.int .i64 id) := hc0
   have hg1 : wr.cell? ⟨b, off + i * 3 + 1, none⟩ = some (.int .i64 pt) := hc1
   have hg2 : wr.cell? ⟨b, off + i * 3 + 2, none⟩ = some (.slice Au ne cu) := hc2
   have HSV : Hid (SecV wr wr.heap.size (.agg #[.int .i64 id, .int .i64 pt, .slice Au ne cu]) (id, pt, es)) := Lib.hid ⟨_, rfl, by rw [hne]; exact hu⟩
   have hx4 := heap_alloc_self wr (.cells #[.int .i64 id, .int .i64 pt, .slice Au ne cu] 65)
   have hb4 := below_new wr (.cells #[.int .i64 id, .int .i64 pt, .slice Au ne cu] 65)
   obtain ⟨q, hq⟩ : ∃ q, q = wr.alloc (.cells #[.int .i64 id, .int .i64 pt, .slice Au ne cu] 65) := ⟨_, rfl⟩
   rw [← hq] at hx4 hb4
   have X4 := Lib.hid hx4
   have B4 := Lib.hid hb4
   have HQ := Lib.hid hq
   have BQ := Lib.hid (BW.out.trans (hb4.mono BW.out.size))
   have HTK := Lib.hid ((HTK0.out.below secR_ hb4).more secR_ hb4.size)
   have HSVQ : Hid (SecV q q.heap.size (.agg #[.int .i64 id, .int .i64 pt, .slice Au ne cu]) (id, pt, es)) := Lib.hid ((HSV.out.below hb4).more hb4.size)
   clear hc0 hc1 hc2 hu hne hs hx4 hb4 hq hb
   go_upto_region 5 with fail
   rw [← HQ.out]
   clear hg0 hg1 hg2 HQ HTK0 HSV
   generalize hp4 : wr.heap.size = p4 at X4 ⊢
   clear hp4
   obtain ⟨k0, k1, k2⟩ := cell3_of X4.out
   by_cases h1 : id ≤ z
   ·have h1d : decide (id ≤ z) = true := decide_eq_true h1
    have HF : Hid (ordT l = false) := Lib.hid (ordT_false fun h => by
     rcases HZ.out with ⟨rfl, hz0⟩ | ⟨hr, hp, hz0⟩
     ·have := (h.s 0 hir).1; rw [HS.out] at this; dsimp only at this; omega
     ·have := (h.k i (i - 1) (by omega) hir).1; rw [HS.out, ← hz0] at this; dsimp only at this; omega)
    clear h1
    go_wp2_with fail
    go_ret
    exact ⟨by rw [HF.out]; rfl, BQ.out⟩
   have h1d : decide (id ≤ z) = false := decide_eq_false h1
   have H1 := Lib.hid h1
   clear h1
   by_cases h2 : 99 < id
   ·have h2d : decide (99 < id) = true := decide_eq_true h2
    have HF : Hid (ordT l = false) := Lib.hid (ordT_false fun h => by have := (h.s i hir).2.1; rw [HS.out] at this; exact absurd this (by omega))
    clear h2
    go_wp2_with fail
    go_ret
    exact ⟨by rw [HF.out]; rfl, BQ.out⟩
   have h2d : decide (99 < id) = false := decide_eq_false h2
   have H2 := Lib.hid h2
   clear h2
   have REST : Hid (¬ (pt ≠ 0 ∧ hasP (l.take i) pt = true) → shapedB (id, pt, es) = true → LastT l (i + 1) id ∧ (∀ i' (hi : i' < i + 1) (hl : i' < l.length), (1 ≤ l[i'].1 ∧ l[i'].1 ≤ 99 ∧ shapedB l[i'] = true) ∧ ∀ j (hj : j < i'), (l[j]'(by omega)).1 < l[i'].1 ∧ ¬ (l[i'].2.1 ≠ 0 ∧ (l[j]'(by omega)).2.1 = l[i'].2.1))) := Lib.hid (fun hp hsh => by
    refine ⟨.inr ⟨hir, by omega, ?_⟩, fun i' hi' hl => ?_⟩
    ·show id = l[i].1
     rw [HS.out]
    ·rcases Nat.lt_or_ge i' i with h | h
     ·exact HALL.out i' h hl
     ·obtain rfl : i' = i := by omega
      have hlast : ∀ j (hj : j < i'), (l[j]'(by omega)).1 ≤ z ∧ 1 ≤ (l[j]'(by omega)).1 := fun j hj => by
       refine ⟨?_, ((HALL.out j hj (by omega)).1).1⟩
       rcases HZ.out with ⟨rfl, hz0⟩ | ⟨hr, hpp, hz0⟩
       ·omega
       ·rcases Nat.lt_or_ge j (i' - 1) with h3 | h3
        ·have := ((HALL.out (i' - 1) (by omega) hr).2 j h3).1
         omega
        ·obtain rfl : j = i' - 1 := by omega
         omega
      have hz1 : 0 ≤ z := by
       rcases HZ.out with ⟨_, hz0⟩ | ⟨hr, hpp, hz0⟩
       ·omega
       ·have := ((HALL.out (i' - 1) (by omega) hr).1).1; omega
      rw [HS.out]
      have g1 := H1.out
      have g2 := H2.out
      refine ⟨⟨by show 1 ≤ id; omega, by show id ≤ 99; omega, hsh⟩, fun j hj => ⟨?_, fun hc => hp ⟨hc.1, ?_⟩⟩⟩
      ·have := (hlast j hj).1; show l[j].1 < id; omega
      ·exact hasP_iff.2 ⟨j, by rw [List.length_take]; omega, by rw [List.getElem_take]; exact hc.2⟩)
   by_cases h3 : pt = 0
   ·have h3b : (pt != 0) = false := by simpa using h3
    have RST := Lib.hid (REST.out (fun h => h.1 h3))
    clear h3 REST
    go_wp2_with fail
    refine (through_ways _ (id, pt, es) q HSVQ.out).mono ?_
    rintro e w2 ⟨rfl, b2⟩
    have B2 := Lib.hid (BQ.out.trans (b2.mono BQ.out.size))
    have X2 := Lib.hid ((b2.block _ (heap_lt X4.out)).trans X4.out)
    clear b2 k0 k1 k2
    have hz0 := below_new w2 (.cells (waysOf (id, pt, es)) 103)
    have hx0 := (hz0.block _ (heap_lt X2.out)).trans X2.out
    obtain ⟨q8, hq8⟩ : ∃ q8, q8 = w2.alloc (.cells (waysOf (id, pt, es)) 103) := ⟨_, rfl⟩
    rw [← hq8] at hz0 hx0
    have H18 := Lib.hid (ways_size (id, pt, es))
    have HI18 := Lib.hid infoWays
    generalize hW : waysOf (id, pt, es) = W18 at hq8 H18 ⊢
    clear hW
    generalize hs : shapedB (id, pt, es) = sh at RST ⊢
    have HSH := Lib.hid hs
    clear hs
    go_upto_region 9 with ((with_reducible show wpList _ _ _ (⟨none, _, _, _, _, _⟩ :: _) _ _); refine wpList_store_row7 (c := ways0) rfl _ (.tmp 7) (.tmp 41) rfl w2.heap.size rfl rfl (heap_alloc_self _ _) (by rw [H18.out.1]; exact HI18.out) (by rw [H18.out.1]; rfl) H18.out.2 ?_; rw [World.setRow_alloc_new])
    rw [← hq8]
    have B8 := Lib.hid (B2.out.trans (hz0.mono B2.out.size))
    have X8 := Lib.hid hx0
    clear hz0 hx0 hq8
    obtain ⟨k0, k1, k2⟩ := cell3_of X8.out
    cases sh with
    | false =>
     have HF : Hid (ordT l = false) := Lib.hid (ordT_false fun h => by have := (h.s i hir).2.2; rw [HS.out, HSH.out] at this; cases this)
     go_wp2_with fail
     go_ret
     exact ⟨by rw [HF.out]; rfl, B8.out⟩
    | true =>
     have RS := Lib.hid (RST.out rfl)
     clear RST
     go_wp2_with fail
     go_roundw
     case measure => simp [intOf]; omega
     case rel => exact ⟨i + 1, id, by omega, by go_num, rfl, RS.out.1, RS.out.2, B8.out⟩
   have h3b : (pt != 0) = true := by simpa using h3
   cases h4 : hasP (l.take i) pt with
   | true =>
    have HF : Hid (ordT l = false) := Lib.hid (ordT_false fun h => by
     obtain ⟨j, hj, he⟩ := hasP_iff.1 h4
     rw [List.length_take] at hj
     rw [List.getElem_take] at he
     have h5 := (h.k i j (by omega) hir).2
     rw [HS.out] at h5
     exact h5 ⟨h3, he⟩)
    clear h3
    have hd4 := h4
    go_wp2_with (refine (containsf_any _ (l.take i) p4 id pt (.slice Au ne cu) q HTK.out X4.out).mono ?_; rintro e w2 ⟨rfl, b2⟩; have B2 := Lib.hid (BQ.out.trans (b2.mono BQ.out.size)); clear b2)
    go_ret
    exact ⟨by rw [HF.out]; rfl, B2.out⟩
   | false =>
    have RST := Lib.hid (REST.out (fun h => by rw [h4] at h; exact absurd h.2 (by decide)))
    have hd4 := h4
    clear h3 REST
    go_upto_region 8 with (refine (containsf_any _ (l.take i) p4 id pt (.slice Au ne cu) q HTK.out X4.out).mono ?_; rintro e w5 ⟨rfl, b5⟩; have B5 := Lib.hid b5; clear b5)
    have BQ5 := Lib.hid (BQ.out.trans (B5.out.mono BQ.out.size))
    have X45 := Lib.hid ((B5.out.block _ (heap_lt X4.out)).trans X4.out)
    have HSV5 := Lib.hid ((HSVQ.out.below B5.out).more B5.out.size)
    clear h4 hd4 k0 k1 k2 BQ X4 HSVQ
    have BQ := BQ5
    have X4 := X45
    clear BQ5 X45 B5
    obtain ⟨k0, k1, k2⟩ := cell3_of X4.out
    go_wp2_with fail
    refine (through_ways _ (id, pt, es) _ HSV5.out).mono ?_
    rintro e w2 ⟨rfl, b2⟩
    have B2 := Lib.hid (BQ.out.trans (b2.mono BQ.out.size))
    have X2 := Lib.hid ((b2.block _ (heap_lt X4.out)).trans X4.out)
    clear b2 k0 k1 k2
    have hz0 := below_new w2 (.cells (waysOf (id, pt, es)) 103)
    have hx0 := (hz0.block _ (heap_lt X2.out)).trans X2.out
    obtain ⟨q8, hq8⟩ : ∃ q8, q8 = w2.alloc (.cells (waysOf (id, pt, es)) 103) := ⟨_, rfl⟩
    rw [← hq8] at hz0 hx0
    have H18 := Lib.hid (ways_size (id, pt, es))
    have HI18 := Lib.hid infoWays
    generalize hW : waysOf (id, pt, es) = W18 at hq8 H18 ⊢
    clear hW
    generalize hs : shapedB (id, pt, es) = sh at RST ⊢
    have HSH := Lib.hid hs
    clear hs
    go_upto_region 9 with ((with_reducible show wpList _ _ _ (⟨none, _, _, _, _, _⟩ :: _) _ _); refine wpList_store_row7 (c := ways0) rfl _ (.tmp 7) (.tmp 41) rfl w2.heap.size rfl rfl (heap_alloc_self _ _) (by rw [H18.out.1]; exact HI18.out) (by rw [H18.out.1]; rfl) H18.out.2 ?_; rw [World.setRow_alloc_new])
    rw [← hq8]
    have B8 := Lib.hid (B2.out.trans (hz0.mono B2.out.size))
    have X8 := Lib.hid hx0
    clear hz0 hx0 hq8
    obtain ⟨k0, k1, k2⟩ := cell3_of X8.out
    cases sh with
    | false =>
     have HF : Hid (ordT l = false) := Lib.hid (ordT_false fun h => by have := (h.s i hir).2.2; rw [HS.out, HSH.out] at this; cases this)
     go_wp2_with fail
     go_ret
     exact ⟨by rw [HF.out]; rfl, B8.out⟩
    | true =>
     have RS := Lib.hid (RST.out rfl)
     clear RST
     go_wp2_with fail
     go_roundw
     case measure => simp [intOf]; omega
     case rel => exact ⟨i + 1, id, by omega, by go_num, rfl, RS.out.1, RS.out.2, B8.out⟩
  ·obtain rfl : i = n := by omega
   have hlt' : ¬ (i : Int) < i := by omega
   have HR : Hid (ordT l = true) := Lib.hid (ordT_true ⟨fun a ha => (HALL.out a (by rw [HN.out]; exact ha) ha).1, fun a b hb ha => (HALL.out a (by rw [HN.out]; exact ha) ha).2 b hb⟩)
   go_wp2_with fail
   go_ret
   exact ⟨by rw [HR.out]; rfl, BW.out⟩
end Go.Proofs.Ytccbdpeicemnjaa

/-
 The program's package track: joined, Check.
 Conditions: none.
-/
set_option linter.unusedVariables false
set_option linter.unusedSimpArgs false
set_option maxRecDepth 100000
namespace Go.Proofs.Ytccbdpeicemnjaa
open Go.RowKit

def JndT (l : List Sec) : Prop := ∀ i k (hi : i < l.length), k < l[i].2.2.length → joinedB l l[i] k = true
noncomputable def jndT (l : List Sec) : Bool := @decide (JndT l) (Classical.propDecidable _)
theorem jndT_true {l : List Sec} (h : JndT l) : jndT l = true := by rw [jndT]; exact @decide_eq_true _ (Classical.propDecidable _) h
theorem jndT_false {l : List Sec} (h : ¬ JndT l) : jndT l = false := by rw [jndT]; exact @decide_eq_false _ (Classical.propDecidable _) h
theorem jndT_iff {l : List Sec} : jndT l = true ↔ JndT l := by rw [jndT]; exact @decide_eq_true_iff _ (Classical.propDecidable _)
theorem joined_joins {l : List Sec} {s : Sec} {k : Nat} {a b : Int} (hj : s.2.2.getD k (0, 0) = (a, b)) (h0 : ¬ (a = 0 ∧ b = 0)) (hh : ¬ (a = s.1 ∧ b = (k : Int))) : joinedB l s k = joinsB l (a, b) (s.1, (k : Int)) := by
 rw [joined_case hj, if_neg h0, joinsB]
 dsimp only
 rcases atS_cases l a with ha | ⟨i, hi, ha, hie⟩
 ·rw [if_pos (.inl (by omega)), atB, ha]; rfl
 ·have hB : atB l a = true := by rw [atB, ha]; exact decide_eq_true (by omega)
  have hV : atV l a = l[i] := by rw [atV, hB, if_pos rfl, ha]; simp [List.getD, List.getElem?_eq_getElem hi]
  have hG : l.getD (atS l a).toNat (0, 0, []) = l[i] := by rw [ha]; simp [List.getD, List.getElem?_eq_getElem hi]
  rw [hB, hV, hG, Bool.true_and, ha]
  by_cases hb : 0 ≤ b ∧ b < (l[i].2.2.length : Int)
  ·have hL : leadsB l[i] b = true := decide_eq_true hb
   rw [if_neg (by rintro (h | h | h | h); omega; omega; omega; exact hh h), hL, Bool.true_and, leadsJ, hL, if_pos rfl]
  ·have hL : leadsB l[i] b = false := decide_eq_false hb
   rw [if_pos (by by_cases h1 : b < 0; exact .inr (.inl h1); exact .inr (.inr (.inl (by omega)))), hL]; rfl

set_option maxHeartbeats 8000000 in
theorem joined7_any (v : Value) (l : List Sec) (w : World) (h : SectsIn w w.heap.size v l) (hr : Rises l) (hl16 : l.length ≤ 16) :
  Calls Try.prog 64 #[v] w fun e w' => e = .returned (.bool (jndT l)) ∧ Below w.heap.size w w' := by
 have H := Lib.hid h
 have HRI := Lib.hid hr
 obtain ⟨A, c, rfl, -, -⟩ := h.slice
 obtain ⟨n, hn⟩ : ∃ n, n = l.length := ⟨_, rfl⟩
 have HN := Lib.hid hn
 have hml : n ≤ 16 := by omega
 have HA := Lib.hid (show SectsIn w w.heap.size (.slice A n c) l by rw [hn]; exact H.out)
 rw [← hn]
 clear hn H h hr hl16
 go_enter Try.func64, Try.ntmps64
 go_wp2_with fail
 go_loopw [10] (fun s10 wr => ∃ i : Nat, i ≤ n ∧ s10 = .int .i64 i ∧ (∀ a (ha : a < i) (hl : a < l.length) b, b < l[a].2.2.length → joinedB l l[a] b = true) ∧ Below w.heap.size w wr) (fun s10 _ => n - (intOf s10).toNat)
 case atStart => exact ⟨0, by omega, by go_num, fun a ha => absurd ha (by omega), Below.refl _ _⟩
 case round =>
  obtain ⟨i, hi, rfl, hall, hb⟩ := hrel
  have HALL := Lib.hid hall
  have BW := Lib.hid hb
  clear hall hb
  by_cases hlt : i < n
  ·have hlt' : (i : Int) < n := by omega
   have hir : i < l.length := by rw [← HN.out]; exact hlt
   obtain ⟨b, off, rfl, hb, hc0, hc1, u, hc2, hu⟩ := ((HA.out.below secR_ BW.out).more secR_ BW.out.size).at hir
   obtain ⟨s, hs⟩ : ∃ s, s = l[i] := ⟨_, rfl⟩
   have HS := Lib.hid hs
   rw [← hs] at hc0 hc1 hu
   obtain ⟨id, pt, es⟩ := s
   dsimp only at hc0 hc1 hu
   obtain ⟨Au, cu, rfl, hul, hum⟩ := hu.slice
   obtain ⟨ne, hne⟩ : ∃ ne, ne = es.length := ⟨_, rfl⟩
   have HNE := Lib.hid hne
   have hnm : ne ≤ 9223372036854775807 := by unfold maxLen at hum; omega
   rw [← hne] at hc2
   have hg0 : wr.cell? ⟨b, off + i * 3, none⟩ = some (.int .i64 id) := hc0
   have hg1 : wr.cell? ⟨b, off + i * 3 + 1, none⟩ = some (.int .i64 pt) := hc1
   have hg2 : wr.cell? ⟨b, off + i * 3 + 2, none⟩ = some (.slice Au ne cu) := hc2
   have HJI : Hid (JoinsIn wr wr.heap.size (.slice Au ne cu) es) := Lib.hid (by rw [hne]; exact hu)
   have hx4 := heap_alloc_self wr (.cells #[.int .i64 id, .int .i64 pt, .slice Au ne cu] 65)
   have hb4 := below_new wr (.cells #[.int .i64 id, .int .i64 pt, .slice Au ne cu] 65)
   obtain ⟨q, hq⟩ : ∃ q, q = wr.alloc (.cells #[.int .i64 id, .int .i64 pt, .slice Au ne cu] 65) := ⟨_, rfl⟩
   rw [← hq] at hx4 hb4
   have X4 := Lib.hid hx4
   have HQ := Lib.hid hq
   have BQ := Lib.hid (BW.out.trans (hb4.mono BW.out.size))
   have HJQ := Lib.hid ((HJI.out.below joinR hb4).more joinR hb4.size)
   clear hc0 hc1 hc2 hu hul hum hne hs hx4 hb4 hq hb
   go_upto_region 4 with fail
   rw [← HQ.out]
   clear hg0 hg1 hg2 HQ HJI
   generalize hp4 : wr.heap.size = p4 at X4 ⊢
   clear hp4
   obtain ⟨k0, k1, k2⟩ := cell3_of X4.out
   go_wp2_with fail
   clear k0 k1 k2
   go_loopw [17] (fun s17 wr => ∃ m : Nat, m ≤ ne ∧ s17 = .int .i64 m ∧ (∀ b, b < m → joinedB l (id, pt, es) b = true) ∧ wr.heap[p4]? = some (.cells #[.int .i64 id, .int .i64 pt, .slice Au ne cu] 65 (0, 0)) ∧ JoinsIn wr wr.heap.size (.slice Au ne cu) es ∧ Below w.heap.size w wr) (fun s17 _ => ne - (intOf s17).toNat)
   case atStart => exact ⟨0, by omega, by go_num, fun b hb => absurd hb (by omega), X4.out, HJQ.out, BQ.out⟩
   case round =>
    obtain ⟨m, hm, rfl, hms, hx4, hji, hb⟩ := hrel
    have HMS := Lib.hid hms
    have XX4 := Lib.hid hx4
    have HJM := Lib.hid hji
    have BM := Lib.hid hb
    clear hms hx4 hji hb X4 BQ HJQ BW
    by_cases hmn : m < ne
    ·have hmn' : (m : Int) < ne := by omega
     have hmr : m < es.length := by rw [← HNE.out]; exact hmn
     obtain ⟨be, oe, rfl, hbe, hd0, hd1⟩ := HJM.out.at hmr
     obtain ⟨j1, j2, hj⟩ : ∃ j1 j2, es[m] = (j1, j2) := ⟨_, _, rfl⟩
     rw [hj] at hd0 hd1
     have HJ : Hid (es.getD m (0, 0) = (j1, j2)) := Lib.hid (by rw [← hj]; simp [List.getD, List.getElem?_eq_getElem hmr])
     have hg0 : wr.cell? ⟨be, oe + m * 2, none⟩ = some (.int .i64 j1) := hd0
     have hg1 : wr.cell? ⟨be, oe + m * 2 + 1, none⟩ = some (.int .i64 j2) := hd1
     have hz := two_boxes wr (.cells #[.int .i64 j1, .int .i64 j2] 60) (.cells #[.int .i64 id, .int .i64 (m : Int)] 60)
     obtain ⟨k0, k1, k2⟩ := cell3_of XX4.out
     obtain ⟨q7, hq7⟩ : ∃ q7, q7 = (wr.alloc (.cells #[.int .i64 j1, .int .i64 j2] 60)).alloc (.cells #[.int .i64 id, .int .i64 (m : Int)] 60) := ⟨_, rfl⟩
     rw [← hq7] at hz
     obtain ⟨hz0, hz1, hzb⟩ := hz
     have HQ := Lib.hid hq7
     have k0' : (wr.alloc (.cells #[.int .i64 j1, .int .i64 j2] 60)).cell? ⟨p4, 0, none⟩ = some (.int .i64 id) := (cell3_of (((below_new wr (.cells #[.int .i64 j1, .int .i64 j2] 60)).block _ (heap_lt XX4.out)).trans XX4.out)).1
     clear hj hd0 hd1 hbe hq7
     go_upto_region 8 with fail
     rw [← HQ.out]
     have X6 := Lib.hid hz0
     have X7 := Lib.hid hz1
     have B7 := Lib.hid (BM.out.trans (hzb.mono BM.out.size))
     have Y4 := Lib.hid ((hzb.block _ (heap_lt XX4.out)).trans XX4.out)
     have HJ7 := Lib.hid ((HJM.out.below joinR hzb).more joinR hzb.size)
     generalize hp6 : wr.heap.size = p6 at X6 X7 ⊢
     clear hz0 hz1 hzb HQ k0 k1 k2 k0' hg0 hg1 hp6 XX4 HJM BM
     obtain ⟨k0, k1⟩ := cell2_of X6.out
     obtain ⟨r0, r1⟩ := cell2_of X7.out
     have NEXT : Hid (joinedB l (id, pt, es) m = true → ∀ b, b < m + 1 → joinedB l (id, pt, es) b = true) := Lib.hid (fun h b hb => by
      rcases Nat.lt_or_ge b m with h1 | h1
      ·exact HMS.out b h1
      ·obtain rfl : b = m := by omega
       exact h)
     have FAIL : Hid (joinedB l (id, pt, es) m = false → jndT l = false) := Lib.hid (fun h => jndT_false fun hj => by
      have := hj i m hir (by rw [← HS.out, ← HNE.out]; exact hmn)
      rw [← HS.out, h] at this
      cases this)
     by_cases h0 : j1 = 0 ∧ j2 = 0
     ·have NX := Lib.hid (NEXT.out (by rw [joined_case HJ.out, if_pos h0]))
      obtain ⟨rfl, rfl⟩ := h0
      have he := join_self 0 0
      go_wp2_with fail
      go_roundw
      case measure => simp [intOf]; omega
      case rel => exact ⟨m + 1, by omega, by go_num, NX.out, Y4.out, HJ7.out, B7.out⟩
     ·have he0 := join_ne h0
      by_cases h1 : j1 = id ∧ j2 = (m : Int)
      ·have HF := Lib.hid (FAIL.out (by rw [joined_case HJ.out, if_neg h0, if_pos (.inr (.inr (.inr h1)))]))
       have he1 : ∀ w : World, (Op.equalIn 10000 60 (.agg #[.int .i64 j1, .int .i64 j2]) (.agg #[.int .i64 id, .int .i64 (m : Int)])).run Try.prog w = .ok true w := fun w => by rw [h1.1, h1.2]; exact join_self _ _ w
       clear h0 h1
       go_wp2_with fail
       go_ret
       exact ⟨by rw [HF.out]; rfl, B7.out⟩
      ·have he1 := join_ne h1
       have HJJ := Lib.hid (joined_joins (l := l) (s := (id, pt, es)) (k := m) HJ.out h0 h1)
       clear h0 h1
       cases hg : joinsB l (j1, j2) (id, (m : Int)) with
       | false =>
        have HF := Lib.hid (FAIL.out (HJJ.out.trans hg))
        have hgg := hg
        go_wp2_with (refine (joins_any _ l (j1, j2) (id, (m : Int)) q7 ((HA.out.below secR_ B7.out).more secR_ B7.out.size) HRI.out (by rw [← HN.out]; omega)).mono ?_; rintro e w2 ⟨rfl, b2⟩; have B2 := Lib.hid (B7.out.trans (b2.mono B7.out.size)); clear b2)
        go_ret
        exact ⟨by rw [HF.out]; rfl, B2.out⟩
       | true =>
        have NX := Lib.hid (NEXT.out (HJJ.out.trans hg))
        have hgg := hg
        go_wp2_with (refine (joins_any _ l (j1, j2) (id, (m : Int)) q7 ((HA.out.below secR_ B7.out).more secR_ B7.out.size) HRI.out (by rw [← HN.out]; omega)).mono ?_; rintro e w2 ⟨rfl, b2⟩; have B2 := Lib.hid b2; clear b2)
        go_roundw
        case measure => simp [intOf]; omega
        case rel => exact ⟨m + 1, by omega, by go_num, NX.out, (B2.out.block _ (heap_lt Y4.out)).trans Y4.out, (HJ7.out.below joinR B2.out).more joinR B2.out.size, B7.out.trans (B2.out.mono B7.out.size)⟩
    ·obtain rfl : m = ne := by omega
     have hmn' : ¬ (m : Int) < m := by omega
     have HNK : Hid (∀ a (ha : a < i + 1) (hl : a < l.length) b, b < l[a].2.2.length → joinedB l l[a] b = true) := Lib.hid (fun a ha hl b hb => by
      rcases Nat.lt_or_ge a i with h | h
      ·exact HALL.out a h hl b hb
      ·obtain rfl : a = i := by omega
       rw [← HS.out] at hb ⊢
       exact HMS.out b (by rw [HNE.out]; exact hb))
     go_wp2_with fail
     go_roundw
     case measure => simp [intOf]; omega
     case rel => exact ⟨i + 1, by omega, by go_num, HNK.out, BM.out⟩
  ·obtain rfl : i = n := by omega
   have hlt' : ¬ (i : Int) < i := by omega
   have HR : Hid (jndT l = true) := Lib.hid (jndT_true fun a b ha hb => HALL.out a (by rw [HN.out]; exact ha) ha b hb)
   go_wp2_with fail
   go_ret
   exact ⟨by rw [HR.out]; rfl, BW.out⟩

theorem may_three {l : List Sec} : TMay l ↔ l.length ≤ 16 ∧ OrdT l ∧ JndT l := ⟨fun h => ⟨h.n, ⟨h.s, h.k⟩, h.e⟩, fun ⟨a, b, c⟩ => ⟨a, b.s, b.k, c⟩⟩
theorem OrdT.rises {l : List Sec} (h : OrdT l) : Rises l := fun i j hj hi => (h.k i j hj hi).1
set_option maxHeartbeats 4000000 in
theorem pcheck_any (v : Value) (l : List Sec) (w : World) (h : SectsIn w w.heap.size v l) :
  Calls Try.prog 38 #[v] w fun e w' => e = .returned (.int .i64 (chkT l)) ∧ Below w.heap.size w w' := by
 have H := Lib.hid h
 obtain ⟨A, c, rfl, hcl, hcm⟩ := h.slice
 obtain ⟨n, hn⟩ : ∃ n, n = l.length := ⟨_, rfl⟩
 have hml : n ≤ 9223372036854775807 := by unfold maxLen at hcm; omega
 have HN := Lib.hid hn
 have H0 : Hid (mayT l = false → chkT l = 8) := Lib.hid (fun h => by rw [chkT, h]; rfl)
 have H1 : Hid (mayT l = true → chkT l = 0) := Lib.hid (fun h => by rw [chkT, h]; rfl)
 rw [← hn] at H ⊢
 clear h hn hcl hcm
 go_enter Try.func38, Try.ntmps38
 by_cases h16 : 16 < n
 ·have h16' : (16 : Int) < n := by omega
  have HC := Lib.hid (H0.out (mayT_false fun h => by have := h.n; rw [← HN.out] at this; omega))
  go_wp2_with fail
  go_ret
  exact ⟨by rw [HC.out]; rfl, Below.refl _ _⟩
 have h16' : ¬ (16 : Int) < n := by omega
 have L16 : Hid (l.length ≤ 16) := Lib.hid (by rw [← HN.out]; omega)
 cases ho : ordT l with
 | false =>
  have HC := Lib.hid (H0.out (mayT_false fun h => by rw [ordT_true (may_three.1 h).2.1] at ho; cases ho))
  have hoo := ho
  go_wp2_with (refine (ordered_any _ l w H.out).mono ?_; rintro e w2 ⟨rfl, b2⟩; have B2 := Lib.hid b2; clear b2)
  go_ret
  exact ⟨by rw [HC.out]; rfl, B2.out⟩
 | true =>
  have ORD := Lib.hid (ordT_iff.1 ho)
  have hoo := ho
  cases hj : jndT l with
  | false =>
   have HC := Lib.hid (H0.out (mayT_false fun h => by rw [jndT_true (may_three.1 h).2.2] at hj; cases hj))
   have hjj := hj
   go_wp2_with (first | (refine (ordered_any _ l w H.out).mono ?_; rintro e w2 ⟨rfl, b2⟩; have B2 := Lib.hid b2; clear b2) | (refine (joined7_any _ l w2 ((H.out.below secR_ B2.out).more secR_ B2.out.size) ORD.out.rises L16.out).mono ?_; rintro e w3 ⟨rfl, b3⟩; have B3 := Lib.hid (B2.out.trans (b3.mono B2.out.size)); clear b3))
   go_ret
   exact ⟨by rw [HC.out]; rfl, B3.out⟩
  | true =>
   have HC := Lib.hid (H1.out (mayT_true (may_three.2 ⟨L16.out, ORD.out, jndT_iff.1 hj⟩)))
   have hjj := hj
   go_wp2_with (first | (refine (ordered_any _ l w H.out).mono ?_; rintro e w2 ⟨rfl, b2⟩; have B2 := Lib.hid b2; clear b2) | (refine (joined7_any _ l w2 ((H.out.below secR_ B2.out).more secR_ B2.out.size) ORD.out.rises L16.out).mono ?_; rintro e w3 ⟨rfl, b3⟩; have B3 := Lib.hid (B2.out.trans (b3.mono B2.out.size)); clear b3))
   go_ret
   exact ⟨by rw [HC.out]; rfl, B3.out⟩
end Go.Proofs.Ytccbdpeicemnjaa

/-
 The program's package track: copies of ends, Find, Next; all its contracts in one.
 Conditions: none.
-/
set_option linter.unusedVariables false
set_option linter.unusedSimpArgs false
set_option maxRecDepth 100000
namespace Go.Proofs.Ytccbdpeicemnjaa
open Go.RowKit

theorem clone7_any (v : Value) (l : List Jn) (w : World) (h : JoinsIn w w.heap.size v l) (hl : l.length ≤ 1000) :
  Calls Try.prog 48 #[v] w fun e w' => ∃ u, e = .returned u ∧ JoinsOwn w' w.heap.size u l ∧ Below w.heap.size w w' := by
 have H := Lib.hid h
 have HLEN := Lib.hid hl
 obtain ⟨A, cap, rfl, -, -, hn, -⟩ := h
 cases A with
 | none =>
  obtain rfl := hn rfl
  have hx : l = [] := by obtain ⟨A', c', e, h1, _⟩ := H.out; cases e; exact List.eq_nil_of_length_eq_zero (by omega)
  subst hx
  have he : ∀ w : World, (binOp .eql 63 (.slice none 0 0) (.slice none 0 0)).run Try.prog w = .ok (.bool true) w := fun _ => rfl
  go_enter Try.func48, Try.ntmps48
  go_wp2_with fail
  go_ret
  exact ⟨_, rfl, ListOwn.nil_, Below.refl _ _⟩
 | some a =>
  obtain ⟨i0, hi, hz0, hz1, hz2⟩ := info_parts infoJoin
  have I0 := Lib.hid hi
  have I1 := Lib.hid hz0
  have I2 := Lib.hid hz1
  have I3 := Lib.hid hz2
  obtain ⟨n, hn2⟩ : ∃ n, n = l.length := ⟨_, rfl⟩
  have HN := Lib.hid hn2
  have HA : Hid (JoinsIn w w.heap.size (.slice (some a) n cap) l) := Lib.hid (by rw [hn2]; exact H.out)
  rw [← hn2]
  have he : ∀ w : World, (binOp .eql 63 (.slice (some a) n cap) (.slice none 0 0)).run Try.prog w = .ok (.bool false) w := fun _ => rfl
  have hq0 := heap_alloc_self w (.cells #[] 60)
  have hqb := below_new w (.cells #[] 60)
  obtain ⟨yss, hy1, hy2, hy3, hy4, hy5, hy6, hy7⟩ := ((HA.out.below joinR hqb).more joinR hqb.size).cells (by omega) joinR_full joinR_cells
  have Y1 := Lib.hid hy1
  have Y2 := Lib.hid hy2
  have Y3 := Lib.hid hy3
  have Y4 := Lib.hid hy4
  have Y6 := Lib.hid hy6
  have Y7 := Lib.hid hy7
  have YL : Hid (yss.flatten.length = n * 2) := Lib.hid (by rw [flat_length _ hy2, hy1, HN.out])
  have Q0 := Lib.hid hq0
  have QB := Lib.hid hqb
  have NL : Hid (n ≤ 1000) := Lib.hid (by rw [HN.out]; exact HLEN.out)
  clear hi hz0 hz1 hz2 hn hl hn2 H hy1 hy2 hy3 hy4 hy5 hy6 hy7 hq0 hqb
  go_enter Try.func48, Try.ntmps48
  go_wp2_with ((with_reducible show wpList _ _ _ (⟨some 7, _, _, _, _, _⟩ :: _) _ _); refine wpList_append_list rfl (.tmp 5) (.tmp 6) _ rfl Try.underlying63 I0.out I1.out rfl I2.out (by decide) I3.out (by decide) rfl (base := w.heap.size) (n := 0) (ys := []) ⟨rfl, .inr ⟨_, _, _, rfl, Nat.le_refl _, Q0.out, Nat.zero_le _, Nat.zero_le _, rfl, rfl⟩⟩ rfl YL.out Y4.out Y7.out Y6.out (by have := NL.out; omega) QB.out.size ?_; intro v1 w1 hown1 hgrow1)
  go_ret
  rw [Nat.zero_add, List.nil_append] at hown1
  have hb1 : Below w.heap.size w w1 := QB.out.grown hgrow1 (by simp) (fun k hk => by cases hk; exact Nat.le_refl _)
  have hbl : Below w.heap.size (w.alloc (.cells #[] 60)) w1 := (Below.refl _ _).grown hgrow1 (by simp) (fun k hk => by cases hk; exact Nat.le_refl _)
  exact ⟨_, rfl, ⟨yss, by rw [← HN.out]; exact hown1, Y1.out, by rw [← HN.out]; have := NL.out; unfold maxLen; omega, Y2.out, fun j ys x h1 h2 => Y3.out j ys x h1 h2⟩, hb1⟩

theorem find_at {l : List Sec} {id : Int} (h : mayT l = true) : (atB l id = false → findE7 l id = 6) ∧ (atB l id = true → findE7 l id = 0 ∧ findS7 l id = atV l id ∧ (atV l id).2.2.length ≤ 3) := by
 constructor
 ·intro hb
  have hlt : atS l id < 0 := by have := of_decide_eq_false hb; omega
  rw [findE7, h, if_pos rfl, if_pos hlt]
 ·intro hb
  have hge : ¬ atS l id < 0 := by have := of_decide_eq_true hb; omega
  have hE : findE7 l id = 0 := by rw [findE7, h, if_pos rfl, if_neg hge]
  refine ⟨hE, by rw [findS7, hE, if_pos rfl, atV, hb, if_pos rfl], ?_⟩
  rcases atS_cases l id with ha | ⟨i, hi, ha, hie⟩
  ·omega
  ·have hV : atV l id = l[i] := by rw [atV, hb, if_pos rfl, ha]; simp [List.getD, List.getElem?_eq_getElem hi]
   rw [hV]
   exact shaped_few ((mayT_iff.1 h).s i hi).2.2
set_option maxHeartbeats 4000000 in
theorem pfind_any (v : Value) (l : List Sec) (id : Int) (w : World) (h : SectsIn w w.heap.size v l) :
  Calls Try.prog 22 #[v, .int .i64 id] w fun e w' => ∃ u, e = .returned (.tuple #[.agg #[.int .i64 (findS7 l id).1, .int .i64 (findS7 l id).2.1, u], .int .i64 (findE7 l id)]) ∧ JoinsOwn w' w.heap.size u (findS7 l id).2.2 ∧ Below w.heap.size w w' := by
 have H := Lib.hid h
 obtain ⟨A, c, rfl, -, -⟩ := h.slice
 obtain ⟨n, hn⟩ : ∃ n, n = l.length := ⟨_, rfl⟩
 have HN := Lib.hid hn
 rw [← hn] at H ⊢
 clear h hn
 have hq0 := heap_alloc_self w (.cells #[.int .i64 0, .int .i64 0, .slice none 0 0] 65)
 have hqb := below_new w (.cells #[.int .i64 0, .int .i64 0, .slice none 0 0] 65)
 go_enter Try.func22, Try.ntmps22
 go_wp2_with fail
 obtain ⟨q, hq⟩ : ∃ q, q = w.alloc (.cells #[.int .i64 0, .int .i64 0, .slice none 0 0] 65) := ⟨_, rfl⟩
 rw [← hq] at hq0 hqb ⊢
 have QB := Lib.hid hqb
 have QS : Hid (q.heap.size = w.heap.size + 1) := Lib.hid (by rw [hq]; exact heap_alloc_size _ _)
 refine (pcheck_any _ l q ((H.out.below secR_ QB.out).more secR_ QB.out.size)).mono ?_
 rintro e w1 ⟨rfl, b1⟩
 have B1 := Lib.hid (QB.out.trans (b1.mono QB.out.size))
 have X1 := Lib.hid ((b1.block _ (heap_lt hq0)).trans hq0)
 have S1 : Hid (w.heap.size + 1 ≤ w1.heap.size) := Lib.hid (by have := b1.size; have := QS.out; omega)
 clear b1 hq0 hqb hq
 obtain ⟨r0, r1, r2⟩ := cell3_of X1.out
 have f0 := frozen2_of X1.out 0
 have f1 := frozen2_of X1.out 1
 have f2 := frozen2_of X1.out 2
 have BAD : Hid (∀ (E : Int) (u : World), findE7 l id = E → E ≠ 0 → Below w.heap.size w u → ∃ x, Ending.returned (.tuple #[.agg #[.int .i64 0, .int .i64 0, .slice none 0 0], .int .i64 E]) = .returned (.tuple #[.agg #[.int .i64 (findS7 l id).1, .int .i64 (findS7 l id).2.1, x], .int .i64 (findE7 l id)]) ∧ JoinsOwn u w.heap.size x (findS7 l id).2.2 ∧ Below w.heap.size w u) := Lib.hid (fun E u hE h0 hb => by
  have hs : findS7 l id = (0, 0, []) := by rw [findS7, hE, if_neg h0]
  rw [hs, hE]
  exact ⟨_, rfl, ListOwn.nil_, hb⟩)
 cases hm : mayT l with
 | false =>
  have HE : Hid (findE7 l id = 8) := Lib.hid (by rw [findE7, hm]; rfl)
  have hc : chkT l = 8 := by rw [chkT, hm]; rfl
  clear hm
  go_wp2_with fail
  exact bodyPost_ret (results_3_tmp rfl _ _ w.heap.size rfl (heap_set3 X1.out _ _ _) Try.underlying65 infoSec3 (.int .i64 8) rfl) rfl (BAD.out 8 _ HE.out (by decide) (below_set3 B1.out (Nat.le_refl _) _ _ _))
 | true =>
  have hc : chkT l = 0 := by rw [chkT, hm]; rfl
  have FA := Lib.hid (find_at (id := id) hm)
  have TM := Lib.hid (mayT_iff.1 hm)
  have HI1 := Lib.hid ((H.out.below secR_ B1.out).more secR_ B1.out.size)
  clear hm
  go_wp2_with fail
  refine (at_any _ l id w1 HI1.out (may_three.1 TM.out).2.1.rises TM.out.n).mono ?_
  rintro e w2 ⟨x, rfl, hx, b2⟩
  have B2 := Lib.hid (B1.out.trans (b2.mono B1.out.size))
  have X2 := Lib.hid ((b2.block _ (heap_lt X1.out)).trans X1.out)
  have S2 : Hid (w.heap.size + 1 ≤ w2.heap.size) := Lib.hid (by have := b2.size; have := S1.out; omega)
  generalize hav : atV l id = s at hx
  have HAV := Lib.hid hav
  obtain ⟨u, rfl, hu⟩ := hx
  obtain ⟨Au, cu, rfl, -, -⟩ := hu.slice
  obtain ⟨sid, pt, es⟩ := s
  dsimp only at hu ⊢
  obtain ⟨m, hm⟩ : ∃ m, m = es.length := ⟨_, rfl⟩
  have HM := Lib.hid hm
  have HU : Hid (JoinsIn w2 w2.heap.size (.slice Au m cu) es) := Lib.hid (by rw [hm]; exact hu)
  rw [← hm]
  clear b2 r0 r1 r2 f0 f1 f2 hav hu hm hc
  have hy0 := heap_alloc_self w2 (.cells #[.int .i64 sid, .int .i64 pt, .slice Au m cu] 65)
  have hyb := below_new w2 (.cells #[.int .i64 sid, .int .i64 pt, .slice Au m cu] 65)
  obtain ⟨q7, hq7⟩ : ∃ q7, q7 = w2.alloc (.cells #[.int .i64 sid, .int .i64 pt, .slice Au m cu] 65) := ⟨_, rfl⟩
  rw [← hq7] at hy0 hyb
  go_upto_region 5 with fail
  rw [← hq7]
  have B7 := Lib.hid (B2.out.trans (hyb.mono B2.out.size))
  have X7 := Lib.hid hy0
  have X27 := Lib.hid ((hyb.block _ (heap_lt X2.out)).trans X2.out)
  have HU7 := Lib.hid ((HU.out.below joinR hyb).more joinR hyb.size)
  have S7 : Hid (w.heap.size + 1 ≤ w2.heap.size ∧ q7.heap.size = w2.heap.size + 1) := Lib.hid ⟨S2.out, by rw [hq7]; exact heap_alloc_size _ _⟩
  generalize hp7 : w2.heap.size = p7 at X7 S7 ⊢
  clear hy0 hyb hq7 hp7
  cases hg : atB l id with
  | false =>
   have HE := Lib.hid (FA.out.1 hg)
   obtain ⟨r0, r1, r2⟩ := cell3_of X27.out
   have f0 := frozen2_of X27.out 0
   have f1 := frozen2_of X27.out 1
   have f2 := frozen2_of X27.out 2
   clear hg
   go_wp2_with fail
   exact bodyPost_ret (results_3_tmp rfl _ _ w.heap.size rfl (heap_set3 X27.out _ _ _) Try.underlying65 infoSec3 (.int .i64 6) rfl) rfl (BAD.out 6 _ HE.out (by decide) (below_set3 B7.out (Nat.le_refl _) _ _ _))
  | true =>
   have HE := Lib.hid (FA.out.2 hg)
   obtain ⟨k0, k1, k2⟩ := cell3_of X7.out
   clear hg
   go_wp2_with fail
   refine (clone7_any _ es q7 (HU7.out) (by have := HE.out.2.2; rw [HAV.out] at this; dsimp only at this; omega)).mono ?_
   rintro e w3 ⟨u3, rfl, hu3, b3⟩
   obtain ⟨A3, c3, rfl⟩ := hu3.slice
   rw [← HM.out]
   have O3 : Hid (JoinsOwn w3 q7.heap.size (.slice A3 m c3) es) := Lib.hid (by rw [HM.out]; exact hu3)
   have B3 := Lib.hid (B7.out.trans (b3.mono B7.out.size))
   have X3 := Lib.hid ((b3.block _ (heap_lt X7.out)).trans X7.out)
   have X23 := Lib.hid ((b3.block _ (heap_lt X27.out)).trans X27.out)
   clear hu3 b3 k0 k1 k2
   have f2 := frozen2_of X3.out 2
   obtain ⟨k0, k1, k2⟩ := cell3_of X3.out
   have hx8 := heap_setK (k := 2) X3.out (.slice A3 m c3)
   have hb8 := below_set B3.out (show w.heap.size ≤ p7 by have := S7.out; omega) 2 (.slice A3 m c3)
   have hx28 := (heap_setFar w3 p7 2 w.heap.size (.slice A3 m c3) (by have := S7.out; omega)).trans X23.out
   obtain ⟨yss, ho, hl, hmx, hs2, hr⟩ := O3.out
   have ho8 := ho.kept (grown_set w3 p7 2 (.slice A3 m c3)) (by
    cases hv : (Value.slice A3 m c3).ownBlock with
    | none => exact .inl rfl
    | some k => refine .inr (fun e => ?_); injection e with e; have := own_ge ho _ hv; have := S7.out; omega)
   obtain ⟨q8, hq8⟩ : ∃ q8, q8 = w3.setCell ⟨p7, 2, none⟩ (.slice A3 m c3) := ⟨_, rfl⟩
   rw [← hq8] at hx8 hb8 hx28 ho8
   go_upto_region 8 with fail
   rw [← hq8]
   have hx8' : q8.heap[p7]? = some (.cells #[.int .i64 sid, .int .i64 pt, .slice A3 m c3] 65 (0, 0)) := hx8
   have X28 := Lib.hid hx28
   have B8 := Lib.hid hb8
   have O8 := Lib.hid ho8
   have OR := Lib.hid (And.intro hl (And.intro hmx (And.intro hs2 hr)))
   clear k0 k1 k2 f2 hx8 hb8 hx28 ho hl hmx hs2 hr hq8 ho8
   obtain ⟨k0, k1, k2⟩ := cell3_of hx8'
   obtain ⟨r0, r1, r2⟩ := cell3_of X28.out
   have f0 := frozen2_of X28.out 0
   have f1 := frozen2_of X28.out 1
   have f2 := frozen2_of X28.out 2
   clear hx8'
   go_wp2_with fail
   refine bodyPost_ret (results_3_tmp rfl _ _ w.heap.size rfl (heap_set3 X28.out _ _ _) Try.underlying65 infoSec3 (.int .i64 0) rfl) rfl ⟨.slice A3 m c3, by rw [HE.out.1, HE.out.2.1, HAV.out], ?_, below_set3 B8.out (Nat.le_refl _) _ _ _⟩
   rw [HE.out.2.1, HAV.out]
   obtain ⟨hl, hmx, hs2, hr⟩ := OR.out
   refine ⟨yss, owns_mono (O8.out.kept (grown_set3 q8 w.heap.size (.int .i64 sid) (.int .i64 pt) (.slice A3 m c3)) ?_) (by have := S7.out; omega), hl, hmx, hs2, fun j ys x h1 h2 => hr j ys x h1 h2⟩
   cases hv : (Value.slice A3 m c3).ownBlock with
   | none => exact .inl rfl
   | some k => refine .inr (fun e => ?_); injection e with e; have := own_ge O8.out _ hv; have := S7.out; omega

set_option maxHeartbeats 4000000 in
theorem pnext_any (v : Value) (l : List Sec) (id k : Int) (w : World) (h : SectsIn w w.heap.size v l) :
  Calls Try.prog 21 #[v, .int .i64 id, .int .i64 k] w fun e w' => e = .returned (.tuple #[.agg #[.int .i64 (nextJ7 l id k).1, .int .i64 (nextJ7 l id k).2], .int .i64 (nextE7 l id k)]) ∧ Below w.heap.size w w' := by
 have H := Lib.hid h
 obtain ⟨A, c, rfl, -, -⟩ := h.slice
 obtain ⟨n, hn⟩ : ∃ n, n = l.length := ⟨_, rfl⟩
 rw [← hn] at H ⊢
 clear h hn
 have hq0 := heap_alloc_self w (.cells #[.int .i64 0, .int .i64 0] 60)
 have hqb := below_new w (.cells #[.int .i64 0, .int .i64 0] 60)
 go_enter Try.func21, Try.ntmps21
 go_wp2_with fail
 obtain ⟨q, hq⟩ : ∃ q, q = w.alloc (.cells #[.int .i64 0, .int .i64 0] 60) := ⟨_, rfl⟩
 rw [← hq] at hq0 hqb ⊢
 have QB := Lib.hid hqb
 refine (pfind_any _ l id q ((H.out.below secR_ QB.out).more secR_ QB.out.size)).mono ?_
 rintro e w1 ⟨u, rfl, hu, b1⟩
 obtain ⟨Au, cu, rfl⟩ := hu.slice
 have HE0 : Hid (nextE7 l id k = if findE7 l id = 0 then (if leadsB (findS7 l id) k then 0 else 2) else findE7 l id) := Lib.hid (by
  rw [nextE7]
  split
  ·by_cases hk : k < 0 ∨ ((findS7 l id).2.2.length : Int) ≤ k
   ·rw [if_pos hk, show leadsB (findS7 l id) k = false from decide_eq_false (by omega)]; rfl
   ·rw [if_neg hk, show leadsB (findS7 l id) k = true from decide_eq_true (by omega)]; rfl
  ·rfl)
 have HJ0 : Hid (nextJ7 l id k = if nextE7 l id k = 0 then (findS7 l id).2.2.getD k.toNat (0, 0) else (0, 0)) := Lib.hid rfl
 generalize findS7 l id = s at hu HE0 HJ0 ⊢
 generalize findE7 l id = E at HE0 ⊢
 obtain ⟨a, p, es⟩ := s
 dsimp only at hu HE0 HJ0 ⊢
 obtain ⟨m, hm⟩ : ∃ m, m = es.length := ⟨_, rfl⟩
 have HUI : Hid (JoinsIn w1 w1.heap.size (.slice Au m cu) es) := Lib.hid (by rw [hm]; exact hu.in_ joinR_cells)
 rw [← hm]
 have B1 := Lib.hid (QB.out.trans (b1.mono QB.out.size))
 have X1 := Lib.hid ((b1.block _ (heap_lt hq0)).trans hq0)
 clear b1 hq0 hqb hq hu hm
 have hy0 := heap_alloc_self w1 (.cells #[.int .i64 a, .int .i64 p, .slice Au m cu] 65)
 have hyb := below_new w1 (.cells #[.int .i64 a, .int .i64 p, .slice Au m cu] 65)
 obtain ⟨q8, hq8⟩ : ∃ q8, q8 = w1.alloc (.cells #[.int .i64 a, .int .i64 p, .slice Au m cu] 65) := ⟨_, rfl⟩
 rw [← hq8] at hy0 hyb
 go_upto_region 2 with fail
 rw [← hq8]
 have B8 := Lib.hid (B1.out.trans (hyb.mono B1.out.size))
 have X8 := Lib.hid hy0
 have X18 := Lib.hid ((hyb.block _ (heap_lt X1.out)).trans X1.out)
 have HU8 : Hid (SecV q8 q8.heap.size (.agg #[.int .i64 a, .int .i64 p, .slice Au m cu]) (a, p, es)) := Lib.hid ⟨_, rfl, (HUI.out.below joinR hyb).more joinR hyb.size⟩
 generalize w1.heap.size = p8 at X8 ⊢
 clear hy0 hyb hq8 HUI
 obtain ⟨k0, k1, k2⟩ := cell3_of X8.out
 have FIN : Hid (∀ (x y F : Int) (o : Ending), o = .returned (.tuple #[.agg #[.int .i64 x, .int .i64 y], .int .i64 F]) → nextE7 l id k = F → nextJ7 l id k = (x, y) → o = .returned (.tuple #[.agg #[.int .i64 (nextJ7 l id k).1, .int .i64 (nextJ7 l id k).2], .int .i64 (nextE7 l id k)])) := Lib.hid (fun x y F o h1 h2 h3 => by rw [h1, h2, h3])
 have NOJ : Hid (nextE7 l id k ≠ 0 → nextJ7 l id k = (0, 0)) := Lib.hid (fun h => by rw [nextJ7, if_neg h])
 by_cases hE : E = 0
 ·subst hE
  have HE1 := Lib.hid (HE0.out.trans (if_pos rfl))
  clear HE0
  go_wp2_with fail
  refine (leads_any _ (a, p, es) k q8 HU8.out).mono ?_
  rintro e w2 ⟨rfl, b2⟩
  have B2 := Lib.hid (B8.out.trans (b2.mono B8.out.size))
  have X12 := Lib.hid ((b2.block _ (heap_lt X18.out)).trans X18.out)
  clear b2 k0 k1 k2
  have HLJ : Hid (leadsJ (a, p, es) k = if leadsB (a, p, es) k then es.getD k.toNat (0, 0) else (0, 0)) := Lib.hid rfl
  generalize leadsJ (a, p, es) k = y at HLJ ⊢
  obtain ⟨y1, y2⟩ := y
  have hz0 := heap_alloc_self w2 (.cells #[.int .i64 y1, .int .i64 y2] 60)
  have hzb := below_new w2 (.cells #[.int .i64 y1, .int .i64 y2] 60)
  obtain ⟨q9, hq9⟩ : ∃ q9, q9 = w2.alloc (.cells #[.int .i64 y1, .int .i64 y2] 60) := ⟨_, rfl⟩
  rw [← hq9] at hz0 hzb
  go_upto_region 5 with fail
  rw [← hq9]
  have B9 := Lib.hid (B2.out.trans (hzb.mono B2.out.size))
  have X9 := Lib.hid hz0
  have X19 := Lib.hid ((hzb.block _ (heap_lt X12.out)).trans X12.out)
  generalize w2.heap.size = p9 at X9 ⊢
  clear hz0 hzb hq9
  obtain ⟨k0, k1⟩ := cell2_of X9.out
  obtain ⟨r0, r1⟩ := cell2_of X19.out
  have f0 := frozen2_of X19.out 0
  have f1 := frozen2_of X19.out 1
  cases hg : leadsB (a, p, es) k with
  | false =>
   have HE : Hid (nextE7 l id k = 2) := Lib.hid (by rw [HE1.out, hg]; rfl)
   have HJ := Lib.hid (NOJ.out (by rw [HE.out]; decide))
   clear hg
   go_wp2_with fail
   refine bodyPost_ret (results_2_tmp rfl _ _ w.heap.size rfl (heap_set2 X19.out _ _) Try.underlying60 infoJoin2 (.int .i64 2) rfl) rfl ⟨FIN.out 0 0 2 _ rfl HE.out HJ.out, below_set2 B9.out (Nat.le_refl _) _ _⟩
  | true =>
   have HE : Hid (nextE7 l id k = 0) := Lib.hid (by rw [HE1.out, hg]; rfl)
   have HJ : Hid (nextJ7 l id k = (y1, y2)) := Lib.hid (by rw [HJ0.out, HE.out, if_pos rfl, HLJ.out, hg, if_pos rfl])
   clear hg
   go_wp2_with fail
   refine bodyPost_ret (results_2_tmp rfl _ _ w.heap.size rfl (heap_set2 X19.out _ _) Try.underlying60 infoJoin2 (.int .i64 0) rfl) rfl ⟨FIN.out y1 y2 0 _ rfl HE.out HJ.out, below_set2 B9.out (Nat.le_refl _) _ _⟩
 ·have hEd : (E != 0) = true := by simpa using hE
  have HE : Hid (nextE7 l id k = E) := Lib.hid (HE0.out.trans (if_neg hE))
  have HJ := Lib.hid (NOJ.out (by rw [HE.out]; exact hE))
  obtain ⟨r0, r1⟩ := cell2_of X18.out
  have f0 := frozen2_of X18.out 0
  have f1 := frozen2_of X18.out 1
  clear HE0 hE
  go_wp2_with fail
  refine bodyPost_ret (results_2_tmp rfl _ _ w.heap.size rfl (heap_set2 X18.out _ _) Try.underlying60 infoJoin2 (.int .i64 E) rfl) rfl ⟨FIN.out 0 0 E _ rfl HE.out HJ.out, below_set2 B8.out (Nat.le_refl _) _ _⟩
end Go.Proofs.Ytccbdpeicemnjaa
