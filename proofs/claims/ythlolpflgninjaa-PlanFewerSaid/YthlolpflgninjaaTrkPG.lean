/-
  The program's package track: whether a list holds a section of that point, as the library asks it by a closure; ordered.
  Conditions: none.
-/
import Derived.Test.YthlolpflgninjaaTrkPC
set_option linter.unusedVariables false
set_option linter.unusedSimpArgs false
set_option maxRecDepth 100000
namespace Go.Proofs.Ythlolpflgninjaa
open Go.RowKit

def sameP (a b : Int) : Bool := decide (a = b)
theorem other_any (id pt : Int) (A : Option Addr) (n c : Nat) (p : Nat) (i5 pt5 : Int) (zz5 : Value) (w : World) (h : w.heap[p]? = some (.cells #[.int .i64 i5, .int .i64 pt5, zz5] 64 (0, 0))) :
    Calls Try.prog 86 #[.agg #[.int .i64 id, .int .i64 pt, .slice A n c], .pointer (some ⟨p, 0, none⟩)] w fun e w' => e = .returned (.bool (sameP pt pt5)) ∧ Below w.heap.size w w' := by
  have hq0 := heap_alloc_self w (.cells #[.int .i64 id, .int .i64 pt, .slice A n c] 64)
  have hqb := below_new w (.cells #[.int .i64 id, .int .i64 pt, .slice A n c] 64)
  have hx := (hqb.block _ (heap_lt h)).trans h
  go_enter Try.func86, Try.ntmps86
  go_upto_region 1 with fail
  generalize w.alloc (.cells #[.int .i64 id, .int .i64 pt, .slice A n c] 64) = q at hq0 hqb hx ⊢
  have QB := Lib.hid hqb
  obtain ⟨k0, k1, k2⟩ := cell3_of hq0
  obtain ⟨r0, r1, r2⟩ := cell3_of hx
  clear hq0 hqb hx h
  by_cases he : pt = pt5
  · have HD : Hid (sameP pt pt5 = true) := Lib.hid (decide_eq_true he)
    have hb : (pt == pt5) = true := by simpa using he
    clear he
    go_wp2_with fail
    go_ret
    exact ⟨by rw [HD.out]; rfl, QB.out⟩
  · have HD : Hid (sameP pt pt5 = false) := Lib.hid (decide_eq_false he)
    have hb : (pt == pt5) = false := by simpa using he
    clear he
    go_wp2_with fail
    go_ret
    exact ⟨by rw [HD.out]; rfl, QB.out⟩

def hasP (l : List Sec) (pt : Int) : Bool := l.any fun s => decide (s.2.1 = pt)
theorem hasP_false {l : List Sec} {pt : Int} (h : ∀ j (h : j < l.length), l[j].2.1 ≠ pt) : hasP l pt = false := by
  rw [hasP, List.any_eq_false]
  intro x hx
  obtain ⟨j, hj, rfl⟩ := List.getElem_of_mem hx
  simpa using h j hj
theorem hasP_true {l : List Sec} {pt : Int} {j : Nat} (hj : j < l.length) (h : l[j].2.1 = pt) : hasP l pt = true := by
  rw [hasP, List.any_eq_true]
  exact ⟨_, List.getElem_mem hj, decide_eq_true h⟩
theorem hasP_iff {l : List Sec} {pt : Int} : hasP l pt = true ↔ ∃ j, ∃ h : j < l.length, l[j].2.1 = pt := by
  rw [hasP, List.any_eq_true]
  constructor
  · rintro ⟨x, hx, he⟩
    obtain ⟨j, hj, rfl⟩ := List.getElem_of_mem hx
    exact ⟨j, hj, of_decide_eq_true he⟩
  · rintro ⟨j, hj, he⟩
    exact ⟨_, List.getElem_mem hj, decide_eq_true he⟩
set_option maxHeartbeats 4000000 in
theorem indexf_any (v : Value) (l : List Sec) (p : Nat) (i5 pt5 : Int) (zz5 : Value) (w : World) (h : SectsIn w w.heap.size v l) (hp : w.heap[p]? = some (.cells #[.int .i64 i5, .int .i64 pt5, zz5] 64 (0, 0))) :
    Calls Try.prog 102 #[v, .func (.func 86) #[] #[.pointer (some ⟨p, 0, none⟩)]] w fun e w' => (∃ r : Int, e = .returned (.int .i64 r) ∧ decide (0 ≤ r) = hasP l pt5) ∧ Below w.heap.size w w' := by
  have H := Lib.hid h
  have XP := Lib.hid hp
  obtain ⟨A, c, rfl, hcl, hcm⟩ := h.slice
  have hml : l.length ≤ 9223372036854775807 := by unfold maxLen at hcm; omega
  obtain ⟨n, hn⟩ : ∃ n, n = l.length := ⟨_, rfl⟩
  have HN := Lib.hid hn
  have HA := Lib.hid (show SectsIn w w.heap.size (.slice A n c) l by rw [hn]; exact H.out)
  rw [← hn] at hml ⊢
  clear hn H hcl hcm h hp
  go_enter Try.func102, Try.ntmps102
  go_wp2_with fail
  go_loopw [8] (fun s8 wr => ∃ i : Nat, i ≤ n ∧ s8 = .int .i64 i ∧ (∀ j (hj : j < i) (hl : j < l.length), l[j].2.1 ≠ pt5) ∧ Below w.heap.size w wr) (fun s8 _ => n - (intOf s8).toNat)
  case atStart => exact ⟨0, by omega, by go_num, fun j hj => absurd hj (by omega), Below.refl _ _⟩
  case round =>
    obtain ⟨i, hi, rfl, hall, hb⟩ := hrel
    have HALL := Lib.hid hall
    have BW := Lib.hid hb
    clear hall hb
    by_cases hlt : i < n
    · have hlt' : (i : Int) < n := by omega
      have hir : i < l.length := by rw [← HN.out]; exact hlt
      obtain ⟨b, off, rfl, hb, hc0, hc1, u, hc2, hu⟩ := ((HA.out.below secR_ BW.out).more secR_ BW.out.size).at hir
      obtain ⟨Au, cu, rfl, -, -⟩ := hu.slice
      obtain ⟨id, pt, es, hs⟩ : ∃ id pt es, l[i] = (id, pt, es) := ⟨_, _, _, rfl⟩
      rw [hs] at hc0 hc1 hc2
      have HS := Lib.hid hs
      have hg0 : wr.cell? ⟨b, off + i * 3, none⟩ = some (.int .i64 id) := hc0
      have hg1 : wr.cell? ⟨b, off + i * 3 + 1, none⟩ = some (.int .i64 pt) := hc1
      obtain ⟨ne, hne⟩ : ∃ ne, ne = es.length := ⟨_, rfl⟩
      have hg2 : wr.cell? ⟨b, off + i * 3 + 2, none⟩ = some (.slice Au ne cu) := by rw [hne]; exact hc2
      have XW := Lib.hid ((BW.out.block _ (heap_lt XP.out)).trans XP.out)
      clear hc0 hc1 hc2 hu hne hs hb
      by_cases he : pt = pt5
      · have HD : Hid (sameP pt pt5 = true) := Lib.hid (decide_eq_true he)
        have HR : Hid (decide (0 ≤ (i : Int)) = hasP l pt5) := Lib.hid (by rw [hasP_true hir (by rw [HS.out]; exact he)]; exact decide_eq_true (by omega))
        clear he
        have hd := HD.out
        go_wp2_with fail
        refine (other_any id pt Au ne cu p i5 pt5 zz5 wr XW.out).mono ?_
        rintro e w1 ⟨rfl, b1⟩
        have B1 := Lib.hid (BW.out.trans (b1.mono BW.out.size))
        clear b1
        go_wp2_with fail
        go_ret
        exact ⟨⟨_, rfl, HR.out⟩, B1.out⟩
      · have HD : Hid (sameP pt pt5 = false) := Lib.hid (decide_eq_false he)
        have NX : Hid (∀ j (hj : j < i + 1) (hl : j < l.length), l[j].2.1 ≠ pt5) := Lib.hid (fun j hj hl => by
          rcases Nat.lt_or_ge j i with h | h
          · exact HALL.out j h hl
          · obtain rfl : j = i := by omega
            rw [HS.out]; exact he)
        clear he
        have hd := HD.out
        go_wp2_with fail
        refine (other_any id pt Au ne cu p i5 pt5 zz5 wr XW.out).mono ?_
        rintro e w1 ⟨rfl, b1⟩
        have B1 := Lib.hid (BW.out.trans (b1.mono BW.out.size))
        clear b1
        go_wp2_with fail
        go_roundw
        case measure => simp [intOf]; omega
        case rel => exact ⟨i + 1, by omega, by go_num, NX.out, B1.out⟩
    · obtain rfl : i = n := by omega
      have hlt' : ¬ (i : Int) < i := by omega
      have HR : Hid (decide (0 ≤ (-1 : Int)) = hasP l pt5) := Lib.hid (by rw [hasP_false fun j hj => HALL.out j (by rw [HN.out]; exact hj) hj]; rfl)
      go_wp2_with fail
      go_ret
      exact ⟨⟨_, rfl, HR.out⟩, BW.out⟩
theorem containsf_any (v : Value) (l : List Sec) (p : Nat) (i5 pt5 : Int) (zz5 : Value) (w : World) (h : SectsIn w w.heap.size v l) (hp : w.heap[p]? = some (.cells #[.int .i64 i5, .int .i64 pt5, zz5] 64 (0, 0))) :
    Calls Try.prog 87 #[v, .func (.func 86) #[] #[.pointer (some ⟨p, 0, none⟩)]] w fun e w' => e = .returned (.bool (hasP l pt5)) ∧ Below w.heap.size w w' := by
  have H := Lib.hid h
  have XP := Lib.hid hp
  obtain ⟨A, c, rfl, -, -⟩ := h.slice
  obtain ⟨n, hn⟩ : ∃ n, n = l.length := ⟨_, rfl⟩
  rw [← hn] at H ⊢
  clear h hp hn
  generalize hg : hasP l pt5 = g
  have HG := Lib.hid hg
  clear hg
  go_enter Try.func87, Try.ntmps87
  go_wp2_with fail
  refine (indexf_any _ l p i5 pt5 zz5 w H.out XP.out).mono ?_
  rintro e w1 ⟨⟨r, rfl, hr⟩, b1⟩
  have B1 := Lib.hid b1
  have hr' : decide (0 ≤ r) = g := hr.trans HG.out
  clear b1 hr
  go_wp2_with fail
  go_ret
  exact ⟨rfl, B1.out⟩
theorem ListIn.take {α : Type} {sz : Nat} {R : El α} {W : World} {B n c : Nat} {A : Option Addr} {xs : List α} (h : ListIn sz R W B (.slice A n c) xs) {i : Nat} (hi : i ≤ n) : ListIn sz R W B (.slice A i c) (xs.take i) := by
  obtain ⟨A', cap, e, h1, h2, hn, h3⟩ := h
  cases e
  have hl : (xs.take i).length = i := by rw [List.length_take]; omega
  refine ⟨A, c, by rw [hl], by omega, h2, hn, fun hp => ?_⟩
  obtain ⟨b, off, ha, hb, hc⟩ := h3 (by omega)
  refine ⟨b, off, ha, hb, fun j hj => ?_⟩
  rw [List.getElem_take]
  exact hc j (by omega)
end Go.Proofs.Ythlolpflgninjaa
