/-
  The program's package track: the search by halves, at, joins.
  Conditions: the sections rise.
-/
import Derived.Test.YthlolpflgninjaaTrkPA
import Derived.Test.YthlolpflgninjaaTrkEq
set_option linter.unusedVariables false
set_option linter.unusedSimpArgs false
set_option maxRecDepth 100000
namespace Go.Proofs.Ythlolpflgninjaa
open Go.RowKit

def Rises (l : List Sec) : Prop := ∀ i j (hj : j < i) (hi : i < l.length), (l[j]'(by omega)).1 < l[i].1
theorem Rises.le {l : List Sec} (h : Rises l) {i j : Nat} (hj : j ≤ i) (hi : i < l.length) : (l[j]'(by omega)).1 ≤ l[i].1 := by
  rcases Nat.lt_or_ge j i with h1 | h1
  · exact Int.le_of_lt (h i j h1 hi)
  · obtain rfl : j = i := by omega
    exact Int.le_refl _

def Found (l : List Sec) (id : Int) (i : Nat) (b : Bool) : Prop := (b = true → ∃ h : i < l.length, l[i].1 = id ∧ ∀ j (hj : j < i), (l[j]'(by omega)).1 ≠ id) ∧ (b = false → ∀ j (hj : j < l.length), l[j].1 ≠ id)
set_option maxHeartbeats 4000000 in
theorem bsearch_any (v : Value) (l : List Sec) (id : Int) (w : World) (h : SectsIn w w.heap.size v l) (hr : Rises l) (hl16 : l.length ≤ 16) :
    Calls Try.prog 99 #[v, .int .i64 id, .func (.func 100) #[] #[]] w fun e w' =>
      (∃ (i : Nat) (b : Bool), e = .returned (.tuple #[.int .i64 i, .bool b]) ∧ Found l id i b) ∧ Below w.heap.size w w' := by
  have H := Lib.hid h
  obtain ⟨A, c, rfl, hcl, hcm⟩ := h.slice
  have hml : l.length ≤ 16 := hl16
  obtain ⟨n, hn⟩ : ∃ n, n = l.length := ⟨_, rfl⟩
  have HN := Lib.hid hn
  have HR := Lib.hid hr
  have HA := Lib.hid (show SectsIn w w.heap.size (.slice A n c) l by rw [hn]; exact H.out)
  rw [← hn] at hml ⊢
  clear hn H hcl hcm h hr hl16
  go_enter Try.func99, Try.ntmps99
  go_wp2_with fail
  go_loopw [9, 10] (fun s9 s10 wr => ∃ i j : Nat, s9 = .int .i64 i ∧ s10 = .int .i64 j ∧ i ≤ j ∧ j ≤ n ∧ (∀ k (hk : k < i) (hl : k < l.length), l[k].1 < id) ∧ (∀ k (hk : j ≤ k) (hl : k < l.length), id ≤ l[k].1) ∧ Below w.heap.size w wr) (fun s9 s10 _ => (intOf s10).toNat - (intOf s9).toNat)
  case atStart => exact ⟨0, n, by go_num, rfl, by omega, Nat.le_refl _, fun k hk => absurd hk (by omega), fun k hk hl => by have := HN.out; omega, Below.refl _ _⟩
  case round =>
    obtain ⟨i, j, rfl, rfl, hij, hjn, hlo, hhi, hb⟩ := hrel
    have LO := Lib.hid hlo
    have HI := Lib.hid hhi
    have BW := Lib.hid hb
    clear hlo hhi hb
    by_cases hlt : i < j
    · have hlt' : (i : Int) < j := by omega
      obtain ⟨m, hm⟩ : ∃ m, m = (i + j) / 2 := ⟨_, rfl⟩
      have hmi : ((i : Int) + j) / 2 = (m : Int) := by omega
      have hmn : m < n := by omega
      have hmij : i ≤ m ∧ m < j := by omega
      have MIJ := Lib.hid hmij
      have hmr : m < l.length := by rw [← HN.out]; exact hmn
      obtain ⟨b, off, rfl, hb, hc0, hc1, u, hc2, hu⟩ := ((HA.out.below secR_ BW.out).more secR_ BW.out.size).at hmr
      obtain ⟨Au, cu, rfl, -, -⟩ := hu.slice
      obtain ⟨z, hz⟩ : ∃ z, z = l[m].1 := ⟨_, rfl⟩
      obtain ⟨pt, hpt⟩ : ∃ pt, pt = l[m].2.1 := ⟨_, rfl⟩
      obtain ⟨ne, hne⟩ : ∃ ne, ne = l[m].2.2.length := ⟨_, rfl⟩
      have hg0 : wr.cell? ⟨b, off + m * 3, none⟩ = some (.int .i64 z) := by rw [hz]; exact hc0
      have hg1 : wr.cell? ⟨b, off + m * 3 + 1, none⟩ = some (.int .i64 pt) := by rw [hpt]; exact hc1
      have hg2 : wr.cell? ⟨b, off + m * 3 + 2, none⟩ = some (.slice Au ne cu) := by rw [hne]; exact hc2
      have HZ := Lib.hid hz
      clear hc0 hc1 hc2 hu hpt hne hz hm hb hmij
      by_cases hzi : z < id
      · have hd : decide (cmpZ z id < 0) = true := decide_eq_true (by rw [cmpZ, if_pos hzi]; decide)
        have NX : Hid (∀ k (hk : k < m + 1) (hl : k < l.length), l[k].1 < id) := Lib.hid (fun k hk hl => by
          have h1 := HR.out.le (i := m) (j := k) (by omega) hmr
          have h2 := HZ.out
          omega)
        clear hzi
        go_wp2_with (refine (acmp_any _ _ _ _ _ _ _).mono ?_; rintro e w1 ⟨rfl, b1⟩; have B1 := Lib.hid (BW.out.trans (b1.mono BW.out.size)); clear b1)
        go_roundw
        case measure => simp [intOf]; have := MIJ.out; omega
        case rel => exact ⟨m + 1, j, by go_num, rfl, by have := MIJ.out; omega, hjn, NX.out, HI.out, B1.out⟩
      · have hd : decide (cmpZ z id < 0) = false := decide_eq_false (by rw [cmpZ, if_neg hzi]; split <;> decide)
        have NX : Hid (∀ k (hk : m ≤ k) (hl : k < l.length), id ≤ l[k].1) := Lib.hid (fun k hk hl => by
          have h1 := HR.out.le (i := k) (j := m) hk hl
          have h2 := HZ.out
          omega)
        clear hzi
        go_wp2_with (refine (acmp_any _ _ _ _ _ _ _).mono ?_; rintro e w1 ⟨rfl, b1⟩; have B1 := Lib.hid (BW.out.trans (b1.mono BW.out.size)); clear b1)
        go_roundw
        case measure => simp [intOf]; have := MIJ.out; omega
        case rel => exact ⟨i, m, rfl, by go_num, by have := MIJ.out; omega, by omega, LO.out, NX.out, B1.out⟩
    · obtain rfl : j = i := by omega
      have hlt' : ¬ (j : Int) < j := by omega
      by_cases hjl : j < n
      · have hjl' : decide ((j : Int) < n) = true := decide_eq_true (by omega)
        have hjr : j < l.length := by rw [← HN.out]; exact hjl
        obtain ⟨b, off, rfl, hb, hc0, hc1, u, hc2, hu⟩ := ((HA.out.below secR_ BW.out).more secR_ BW.out.size).at hjr
        obtain ⟨Au, cu, rfl, -, -⟩ := hu.slice
        obtain ⟨z, hz⟩ : ∃ z, z = l[j].1 := ⟨_, rfl⟩
        obtain ⟨pt, hpt⟩ : ∃ pt, pt = l[j].2.1 := ⟨_, rfl⟩
        obtain ⟨ne, hne⟩ : ∃ ne, ne = l[j].2.2.length := ⟨_, rfl⟩
        have hg0 : wr.cell? ⟨b, off + j * 3, none⟩ = some (.int .i64 z) := by rw [hz]; exact hc0
        have hg1 : wr.cell? ⟨b, off + j * 3 + 1, none⟩ = some (.int .i64 pt) := by rw [hpt]; exact hc1
        have hg2 : wr.cell? ⟨b, off + j * 3 + 2, none⟩ = some (.slice Au ne cu) := by rw [hne]; exact hc2
        have HZ := Lib.hid hz
        clear hc0 hc1 hc2 hu hpt hne hz hb
        by_cases hzi : z = id
        · have hd : (cmpZ z id == 0) = true := by rw [cmpZ, if_neg (by omega), if_neg (by omega)]; rfl
          have FIN : Hid (∃ h : j < l.length, l[j].1 = id ∧ ∀ k (hk : k < j), (l[k]'(by omega)).1 ≠ id) := Lib.hid ⟨hjr, by rw [← HZ.out]; exact hzi, fun k hk => by have := LO.out k hk (by omega); omega⟩
          clear hzi
          go_wp2_with (refine (acmp_any _ _ _ _ _ _ _).mono ?_; rintro e w1 ⟨rfl, b1⟩; have B1 := Lib.hid (BW.out.trans (b1.mono BW.out.size)); clear b1)
          go_ret2
          exact ⟨⟨j, true, rfl, (fun _ => FIN.out), fun h => Bool.noConfusion h⟩, B1.out⟩
        · have hd : (cmpZ z id == 0) = false := by
            rw [cmpZ, beq_eq_false_iff_ne]
            by_cases h1 : z < id
            · rw [if_pos h1]; decide
            · rw [if_neg h1, if_pos (by omega)]; decide
          have FIN : Hid (∀ k (hk : k < l.length), l[k].1 ≠ id) := Lib.hid (fun k hk => by
            rcases Nat.lt_or_ge k j with h1 | h1
            · have := LO.out k h1 hk; omega
            · have h2 := HI.out k h1 hk
              rcases Nat.lt_or_ge j k with h3 | h3
              · have h4 := HR.out k j h3 hk
                have h5 := HI.out j (Nat.le_refl _) hjr
                omega
              · obtain rfl : k = j := by omega
                rw [← HZ.out]; exact hzi)
          clear hzi
          go_wp2_with (refine (acmp_any _ _ _ _ _ _ _).mono ?_; rintro e w1 ⟨rfl, b1⟩; have B1 := Lib.hid (BW.out.trans (b1.mono BW.out.size)); clear b1)
          go_ret2
          exact ⟨⟨j, false, rfl, (fun h => Bool.noConfusion h), fun _ => FIN.out⟩, B1.out⟩
      · have hjl' : decide ((j : Int) < n) = false := decide_eq_false (by omega)
        have FIN : Hid (∀ k (hk : k < l.length), l[k].1 ≠ id) := Lib.hid (fun k hk => by have := LO.out k (by have := HN.out; omega) hk; omega)
        go_wp2_with fail
        go_ret2
        exact ⟨⟨j, .inl ⟨rfl, (fun h => Bool.noConfusion h), fun _ => FIN.out⟩⟩, BW.out⟩

def atB (l : List Sec) (id : Int) : Bool := decide (0 ≤ atS l id)
def atV (l : List Sec) (id : Int) : Sec := if atB l id then l.getD (atS l id).toNat (0, 0, []) else (0, 0, [])
theorem secV_zero (W : World) (B : Nat) : SecV W B (.agg #[.int .i64 0, .int .i64 0, .slice none 0 0]) (0, 0, []) := ⟨_, rfl, ListIn.nil_⟩
set_option maxHeartbeats 4000000 in
theorem at_any (v : Value) (l : List Sec) (id : Int) (w : World) (h : SectsIn w w.heap.size v l) (hr : Rises l) (hl16 : l.length ≤ 16) :
    Calls Try.prog 84 #[v, .int .i64 id] w fun e w' => ∃ x, e = .returned (.tuple #[x, .bool (atB l id)]) ∧ SecV w' w'.heap.size x (atV l id) ∧ Below w.heap.size w w' := by
  have H := Lib.hid h
  have HR := Lib.hid hr
  obtain ⟨A, c, rfl, -, -⟩ := h.slice
  obtain ⟨n, hn⟩ : ∃ n, n = l.length := ⟨_, rfl⟩
  have HN := Lib.hid hn
  have HL := Lib.hid hl16
  rw [← hn] at H ⊢
  clear h hn hr hl16
  have hq0 := heap_alloc_self w (.cells #[.int .i64 0, .int .i64 0, .slice none 0 0] 64)
  have hqb := below_new w (.cells #[.int .i64 0, .int .i64 0, .slice none 0 0] 64)
  go_enter Try.func84, Try.ntmps84
  go_wp2_with fail
  obtain ⟨q, hq⟩ : ∃ q, q = w.alloc (.cells #[.int .i64 0, .int .i64 0, .slice none 0 0] 64) := ⟨_, rfl⟩
  rw [← hq] at hq0 hqb ⊢
  have QB := Lib.hid hqb
  refine (bsearch_any _ l id q ((H.out.below secR_ QB.out).more secR_ QB.out.size) HR.out HL.out).mono ?_
  rintro e w1 ⟨⟨i, g, rfl, ht, hf⟩, b1⟩
  have B1 := Lib.hid (QB.out.trans (b1.mono QB.out.size))
  have X1 := Lib.hid ((b1.block _ (heap_lt hq0)).trans hq0)
  have H1 := Lib.hid ((H.out.below secR_ B1.out).more secR_ B1.out.size)
  clear b1 hq0 hqb hq
  obtain ⟨r0, r1, r2⟩ := cell3_of X1.out
  have f0 := frozen2_of X1.out 0
  have f1 := frozen2_of X1.out 1
  have f2 := frozen2_of X1.out 2
  cases g with
  | false =>
    have hn1 := atS_none (hf rfl)
    have HB : Hid (atB l id = false) := Lib.hid (by rw [atB, hn1]; rfl)
    have HV : Hid (atV l id = (0, 0, [])) := Lib.hid (by rw [atV, HB.out]; rfl)
    clear hn1 ht hf
    go_wp2_with fail
    refine bodyPost_ret (results_3_tmp rfl _ _ w.heap.size rfl (heap_set3 X1.out _ _ _) Try.underlying64 infoSec3 (.bool false) rfl) rfl ⟨_, by rw [HB.out], by rw [HV.out]; exact secV_zero _ _, below_set3 B1.out (Nat.le_refl _) _ _ _⟩
  | true =>
    obtain ⟨hir, hie, hlt⟩ := ht rfl
    have hs1 := atS_some hir hie hlt
    have HB : Hid (atB l id = true) := Lib.hid (by rw [atB, hs1]; exact decide_eq_true (by omega))
    have HV : Hid (atV l id = l[i]) := Lib.hid (by rw [atV, HB.out, if_pos rfl, hs1]; simp [List.getD, List.getElem?_eq_getElem hir])
    have hin : (i : Int) < n := by rw [HN.out]; omega
    obtain ⟨b, off, rfl, hb, hc0, hc1, u, hc2, hu⟩ := H1.out.at hir
    obtain ⟨s, hs⟩ : ∃ s, s = l[i] := ⟨_, rfl⟩
    rw [← hs] at hc0 hc1 hu HV
    obtain ⟨Au, cu, rfl, -, -⟩ := hu.slice
    have hg0 : w1.cell? ⟨b, off + i * 3, none⟩ = some (.int .i64 s.1) := hc0
    have hg1 : w1.cell? ⟨b, off + i * 3 + 1, none⟩ = some (.int .i64 s.2.1) := hc1
    have hg2 : w1.cell? ⟨b, off + i * 3 + 2, none⟩ = some (.slice Au s.2.2.length cu) := hc2
    have HU := Lib.hid (hu.more joinR (Nat.le_refl _))
    have HU0 : Hid (JoinsIn w w.heap.size (.slice Au s.2.2.length cu) s.2.2) := Lib.hid (by
      obtain ⟨b', off', e', hb', hd0, hd1, u', hd2, hu'⟩ := H.out.at hir
      cases e'
      have he := (B1.out.cell (p := ⟨b, off + i * 3 + 2, none⟩) hb').trans hd2
      rw [← hs] at hu'
      rw [hg2] at he
      cases he
      exact hu')
    clear hc0 hc1 hc2 hu hs hb ht hf hs1 hlt hie
    go_wp2_with fail
    refine bodyPost_ret (results_3_tmp rfl _ _ w.heap.size rfl (heap_set3 X1.out _ _ _) Try.underlying64 infoSec3 (.bool true) rfl) rfl ⟨_, by rw [HB.out], ?_, below_set3 B1.out (Nat.le_refl _) _ _ _⟩
    rw [HV.out]
    exact ⟨_, rfl, (HU0.out.below joinR (below_set3 B1.out (Nat.le_refl _) _ _ _)).more joinR (below_set3 B1.out (Nat.le_refl _) _ _ _).size⟩
end Go.Proofs.Ythlolpflgninjaa
