/-
  The document's own functions of package track: At, Shaped, Lie, Great.
  Conditions: none.
-/
import Derived.Test.YthlolpflgninjaaTrackMem
set_option linter.unusedVariables false
set_option linter.unusedSimpArgs false
set_option maxRecDepth 100000
namespace Go.Proofs.Ythlolpflgninjaa
open Go.RowKit

/-- A section's place; -1: there is none. -/
def atS (l : List Sec) (id : Int) : Int := match l.findIdx? (fun s => decide (s.1 = id)) with
  | some i => (i : Int)
  | none => -1
theorem find_none {l : List Sec} {id : Int} : (∀ j (h : j < l.length), l[j].1 ≠ id) → l.findIdx? (fun s => decide (s.1 = id)) = none := fun h => by
  rw [List.findIdx?_eq_none_iff]
  intro x hx
  obtain ⟨j, hj, rfl⟩ := List.getElem_of_mem hx
  exact decide_eq_false (h j hj)
theorem find_some {l : List Sec} {id : Int} {i : Nat} (hi : i < l.length) (he : l[i].1 = id) (h : ∀ j (h : j < i), (l[j]'(by omega)).1 ≠ id) : l.findIdx? (fun s => decide (s.1 = id)) = some i := by
  rw [List.findIdx?_eq_some_iff_getElem]
  exact ⟨hi, decide_eq_true he, fun j hj => by simpa using h j hj⟩
theorem atS_none {l : List Sec} {id : Int} (h : ∀ j (h : j < l.length), l[j].1 ≠ id) : atS l id = -1 := by rw [atS, find_none h]
theorem atS_some {l : List Sec} {id : Int} {i : Nat} (hi : i < l.length) (he : l[i].1 = id) (h : ∀ j (h : j < i), (l[j]'(by omega)).1 ≠ id) : atS l id = (i : Int) := by rw [atS, find_some hi he h]
def shapedB (s : Sec) : Bool := if s.2.1 = 0 then decide (s.2.2.length = 2) else decide (1 ≤ s.2.1) && (decide (s.2.1 ≤ 99) && decide (s.2.2.length = 3))
def lieS (pt a b : Int) : Int :=
  if pt = 0 then (if a = 0 ∧ b = 1 ∨ a = 1 ∧ b = 0 then 0 else -1)
  else if a = 0 ∧ (b = 1 ∨ b = 2) then b else if b = 0 ∧ (a = 1 ∨ a = 2) then a else -1

theorem rat_any (v : Value) (l : List Sec) (id : Int) (w : World) (h : SectsIn w w.heap.size v l) :
    Calls Try.prog 97 #[v, .int .i64 id] w fun e w' => e = .returned (.int .i64 (atS l id)) ∧ w' = w := by
  have H := Lib.hid h
  obtain ⟨A, c, rfl, hcl, hcm⟩ := h.slice
  have hml : l.length ≤ 9223372036854775807 := by unfold maxLen at hcm; omega
  obtain ⟨n, hn⟩ : ∃ n, n = l.length := ⟨_, rfl⟩
  have HN := Lib.hid hn
  have HA := Lib.hid (show SectsIn w w.heap.size (.slice A n c) l by rw [hn]; exact H.out)
  rw [← hn] at hml ⊢
  clear hn H hcl hcm h
  go_enter Try.func97, Try.ntmps97
  go_wp2_with fail
  go_loopw [5] (fun s5 wr => ∃ i : Nat, i ≤ n ∧ s5 = .int .i64 i ∧ (∀ j (hj : j < i) (hl : j < l.length), l[j].1 ≠ id) ∧ wr = w) (fun s5 _ => n - (intOf s5).toNat)
  case atStart => exact ⟨0, by omega, by go_num, fun j hj => absurd hj (by omega), rfl⟩
  case round =>
    obtain ⟨i, hi, rfl, hall, rfl⟩ := hrel
    have HALL := Lib.hid hall
    clear hall
    by_cases hlt : i < n
    · have hlt' : (i : Int) < n := by omega
      have hir : i < l.length := by rw [← HN.out]; exact hlt
      obtain ⟨b, off, rfl, hb, hc0, -⟩ := HA.out.at hir
      have hcell : wr.cell? ⟨b, off + i * 3, none⟩ = some (.int .i64 l[i].1) := by simpa using hc0
      obtain ⟨z, hz⟩ : ∃ z, z = l[i].1 := ⟨_, rfl⟩
      rw [← hz] at hcell
      have HZ := Lib.hid hz
      clear hc0 hz
      by_cases he : z = id
      · have HR : Hid (atS l id = (i : Int)) := Lib.hid (atS_some hir (by rw [← HZ.out]; exact he) fun j hj => HALL.out j hj (by omega))
        go_wp2_with fail
        go_ret
        exact ⟨by rw [HR.out]; rfl, rfl⟩
      · have HS : Hid (∀ j (hj : j < i + 1) (hl : j < l.length), l[j].1 ≠ id) := Lib.hid (fun j hj hl => by
          rcases Nat.lt_or_ge j i with h | h
          · exact HALL.out j h hl
          · obtain rfl : j = i := by omega
            rw [← HZ.out]; exact he)
        go_wp2_with fail
        go_roundw
        case measure => simp [intOf]; omega
        case rel => exact ⟨i + 1, by omega, by go_num, HS.out, trivial⟩
    · obtain rfl : i = n := by omega
      have hlt' : ¬ (i : Int) < i := by omega
      have HR : Hid (atS l id = -1) := Lib.hid (atS_none fun j hj => HALL.out j (by rw [HN.out]; exact hj) hj)
      go_wp2_with fail
      go_ret
      exact ⟨by rw [HR.out]; rfl, rfl⟩

theorem rshaped_any (v : Value) (s : Sec) (w : World) (h : SecV w w.heap.size v s) :
    Calls Try.prog 95 #[v] w fun e w' => e = .returned (.bool (shapedB s)) ∧ Below w.heap.size w w' := by
  obtain ⟨u, rfl, hu⟩ := h
  obtain ⟨A, c, rfl, -, -⟩ := hu.slice
  obtain ⟨id, pt, l⟩ := s
  obtain ⟨n, hn⟩ : ∃ n, n = l.length := ⟨_, rfl⟩
  have HS : Hid (shapedB (id, pt, l) = if pt = 0 then decide (n = 2) else decide (1 ≤ pt) && (decide (pt ≤ 99) && decide (n = 3))) := Lib.hid (by rw [hn]; rfl)
  have HB := Lib.hid (below_new w (.cells #[.int .i64 id, .int .i64 pt, .slice A n c] 64))
  dsimp only at hu ⊢
  rw [← hn]
  clear hu hn
  by_cases h0 : pt = 0
  · subst h0
    have hs : shapedB (id, 0, l) = ((n : Int) == 2) := by rw [HS.out, if_pos rfl, Bool.eq_iff_iff, decide_eq_true_iff, beq_iff_eq]; omega
    have HR := Lib.hid hs
    clear hs
    go_enter Try.func95, Try.ntmps95
    go_wp2_with fail
    go_ret
    exact ⟨by rw [HR.out]; rfl, HB.out⟩
  · by_cases h1 : 1 ≤ pt
    · by_cases h2 : pt ≤ 99
      · have hs : shapedB (id, pt, l) = ((n : Int) == 3) := by
          rw [HS.out, if_neg h0, decide_eq_true h1, decide_eq_true h2, Bool.true_and, Bool.true_and, Bool.eq_iff_iff, decide_eq_true_iff, beq_iff_eq]; omega
        have HR := Lib.hid hs
        clear hs
        go_enter Try.func95, Try.ntmps95
        go_wp2_with fail
        go_ret
        exact ⟨by rw [HR.out]; rfl, HB.out⟩
      · have hs : shapedB (id, pt, l) = false := by rw [HS.out, if_neg h0, decide_eq_false h2, Bool.false_and, Bool.and_false]
        have hd2 : decide (pt ≤ 99) = false := decide_eq_false h2
        have HR := Lib.hid hs
        clear hs
        go_enter Try.func95, Try.ntmps95
        go_wp2_with fail
        go_ret
        exact ⟨by rw [HR.out]; rfl, HB.out⟩
    · have hs : shapedB (id, pt, l) = false := by rw [HS.out, if_neg h0, decide_eq_false h1, Bool.false_and]
      have hd1 : decide (1 ≤ pt) = false := decide_eq_false h1
      have HR := Lib.hid hs
      clear hs
      go_enter Try.func95, Try.ntmps95
      go_wp2_with fail
      go_ret
      exact ⟨by rw [HR.out]; rfl, HB.out⟩

/-- Sections that are not great. -/
def Few (l : List Sec) : Prop := l.length ≤ 40 ∧ ∀ s ∈ l, s.2.2.length ≤ 20
theorem rgreat_any (v : Value) (l : List Sec) (w : World) (h : SectsIn w w.heap.size v l) :
    Calls Try.prog 35 #[v] w fun e w' => (∃ g : Bool, e = .returned (.bool g) ∧ (g = false → Few l)) ∧ w' = w := by
  have H := Lib.hid h
  obtain ⟨A, c, rfl, hcl, hcm⟩ := h.slice
  have hml : l.length ≤ 9223372036854775807 := by unfold maxLen at hcm; omega
  obtain ⟨n, hn⟩ : ∃ n, n = l.length := ⟨_, rfl⟩
  have HN := Lib.hid hn
  have HA := Lib.hid (show SectsIn w w.heap.size (.slice A n c) l by rw [hn]; exact H.out)
  rw [← hn] at hml ⊢
  clear hn H hcl hcm h
  go_enter Try.func35, Try.ntmps35
  go_wp2_with fail
  go_loopw [3] (fun s3 wr => ∃ i : Nat, i ≤ n ∧ s3 = .int .i64 i ∧ (∀ j (hj : j < i) (hl : j < l.length), l[j].2.2.length ≤ 20) ∧ wr = w) (fun s3 _ => n - (intOf s3).toNat)
  case atStart => exact ⟨0, by omega, by go_num, fun j hj => absurd hj (by omega), rfl⟩
  case round =>
    obtain ⟨i, hi, rfl, hall, rfl⟩ := hrel
    have HALL := Lib.hid hall
    clear hall
    by_cases hlt : i < n
    · have hlt' : decide ((i : Int) < n) = true := decide_eq_true (by omega)
      have hir : i < l.length := by rw [← HN.out]; exact hlt
      by_cases h40 : i < 40
      · have h40' : decide ((i : Int) < 40) = true := decide_eq_true (by omega)
        obtain ⟨b, off, rfl, hb, hc0, hc1, u, hc2, hu⟩ := HA.out.at hir
        obtain ⟨Au, cu, rfl, hul, hum⟩ := hu.slice
        obtain ⟨k, hk⟩ : ∃ k, k = l[i].2.2.length := ⟨_, rfl⟩
        rw [← hk] at hc2
        have HK := Lib.hid hk
        have hkm : k ≤ 9223372036854775807 := by unfold maxLen at hum; omega
        have hcell : wr.cell? ⟨b, off + i * 3 + 2, none⟩ = some (.slice Au k cu) := hc2
        clear hc0 hc1 hc2 hu hul hum hk
        by_cases h20 : 20 < k
        · have h20' : (20 : Int) < k := by omega
          go_wp2_with fail
          go_ret
          exact ⟨⟨true, rfl, fun h => by cases h⟩, rfl⟩
        · have h20' : ¬ (20 : Int) < k := by omega
          have HS : Hid (∀ j (hj : j < i + 1) (hl : j < l.length), l[j].2.2.length ≤ 20) := Lib.hid (fun j hj hl => by
            rcases Nat.lt_or_ge j i with h | h
            · exact HALL.out j h hl
            · obtain rfl : j = i := by omega
              rw [← HK.out]; omega)
          go_wp2_with fail
          go_roundw
          case measure => simp [intOf]; omega
          case rel => exact ⟨i + 1, by omega, by go_num, HS.out, trivial⟩
      · have h40' : decide ((i : Int) < 40) = false := decide_eq_false (by omega)
        have hn40 : (40 : Int) < n := by omega
        go_wp2_with fail
        go_ret
        exact ⟨⟨true, rfl, fun h => by cases h⟩, rfl⟩
    · obtain rfl : i = n := by omega
      have hlt' : decide ((i : Int) < i) = false := decide_eq_false (by omega)
      have HE : Hid (∀ s ∈ l, s.2.2.length ≤ 20) := Lib.hid (fun s hs => by
        obtain ⟨j, hj, rfl⟩ := List.getElem_of_mem hs
        exact HALL.out j (by rw [HN.out]; exact hj) hj)
      by_cases h40 : 40 < i
      · have h40' : (40 : Int) < i := by omega
        go_wp2_with fail
        go_ret
        exact ⟨⟨true, rfl, fun h => by cases h⟩, rfl⟩
      · have h40' : ¬ (40 : Int) < i := by omega
        have h40d : decide ((40 : Int) < i) = false := decide_eq_false h40'
        have HL : Hid (l.length ≤ 40) := Lib.hid (by rw [← HN.out]; omega)
        go_wp2_with fail
        go_ret
        exact ⟨.inl ⟨rfl, HL.out, HE.out⟩, rfl⟩
end Go.Proofs.Ythlolpflgninjaa
