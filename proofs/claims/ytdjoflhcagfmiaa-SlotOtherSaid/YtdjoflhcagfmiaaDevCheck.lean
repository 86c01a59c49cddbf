/-
  Whether a disk may be, as the program asks it.
  Conditions: none.
-/
import Derived.Test.YtdjoflhcagfmiaaDevMem
import Derived.Test.YtdjoflhcagfmiaaRow
import Derived.Lib.Hide
import Derived.OwnWalk
import Derived.StillTailTactics
set_option linter.unusedVariables false
set_option linter.unusedSimpArgs false
set_option maxRecDepth 100000
namespace Go.Proofs.Ytdjoflhcagfmiaa
open Go.RowKit

theorem cell2_of {w : World} {b : Nat} {v1 v2 : Value} {t : TypeId} {fr : Nat × Nat} (h : w.heap[b]? = some (.cells #[v1, v2] t fr)) : w.cell? ⟨b, 0, none⟩ = some v1 ∧ w.cell? ⟨b, 1, none⟩ = some v2 :=
  ⟨by rw [cell_of_row _ _ _ _ _ _ h]; rfl, by rw [cell_of_row _ _ _ _ _ _ h]; rfl⟩
theorem range2_of {w : World} {b : Nat} {v1 v2 : Value} {t : TypeId} {fr : Nat × Nat} (h : w.heap[b]? = some (.cells #[v1, v2] t fr)) : w.rangeAt b 0 [v1, v2] := fun j v hv => by
  rw [Nat.zero_add, cell_of_row _ _ _ _ _ _ h]
  simpa using hv
theorem infoDisk2 : (Try.prog.info? 29).map (·.size) = some 2 := by kernel_rfl
theorem infoWrite2 : (Try.prog.info? 52).map (·.size) = some 2 := by kernel_rfl

theorem below_any (n e : Int) (w : World) : Calls Try.prog 46 #[.int .i64 n, .int .i64 e] w fun r w' => r = .returned (.bool (decide (0 ≤ n ∧ n < e))) ∧ w = w' := by
  by_cases h : 0 ≤ n
  · go_enter Try.func46, Try.ntmps46
    go_wp2
    go_ret
    simp [h]
  · go_enter Try.func46, Try.ntmps46
    go_wp2
    go_ret
    simp [h]
    omega

def okWB (w : Wr) : Bool := decide (0 ≤ w.1 ∧ w.1 < 32) && decide (w.2.length = 128)
def mayB (ss : List Bs) (ws : List Wr) : Bool := decide (ss.length = 32) && decide (ws.length ≤ 256) && ss.all (fun s => decide (s.length = 128)) && ws.all okWB
theorem mayB_iff {ss : List Bs} {ws : List Wr} : mayB ss ws = true ↔ May ss ws := by
  simp only [mayB, okWB, Bool.and_eq_true, decide_eq_true_eq, List.all_eq_true]
  exact ⟨fun h => ⟨h.1.1.1, h.1.1.2, h.1.2, fun x hx => ⟨(h.2 x hx).1.1, (h.2 x hx).1.2, (h.2 x hx).2⟩⟩, fun h => ⟨⟨⟨h.n, h.m⟩, h.s⟩, fun x hx => ⟨⟨(h.w x hx).1, (h.w x hx).2.1⟩, (h.w x hx).2.2⟩⟩⟩

theorem mayB_n {ss : List Bs} {ws : List Wr} (h : ss.length ≠ 32) : mayB ss ws = false := by
  cases e : mayB ss ws with
  | false => rfl
  | true => exact absurd (mayB_iff.1 e).n h
theorem mayB_m {ss : List Bs} {ws : List Wr} (h : ¬ ws.length ≤ 256) : mayB ss ws = false := by
  cases e : mayB ss ws with
  | false => rfl
  | true => exact absurd (mayB_iff.1 e).m h
theorem mayB_s {ss : List Bs} {ws : List Wr} {j : Nat} (hj : j < ss.length) (h : ¬ ss[j].length = 128) : mayB ss ws = false := by
  cases e : mayB ss ws with
  | false => rfl
  | true => exact absurd ((mayB_iff.1 e).s _ (List.getElem_mem hj)) h
theorem mayB_w {ss : List Bs} {ws : List Wr} {j : Nat} (hj : j < ws.length) (h : ¬ okW ws[j]) : mayB ss ws = false := by
  cases e : mayB ss ws with
  | false => rfl
  | true => exact absurd ((mayB_iff.1 e).w _ (List.getElem_mem hj)) h
theorem mayB_all {ss : List Bs} {ws : List Wr} (hn : ss.length = 32) (hm : ws.length ≤ 256) (hs : ∀ j (h : j < ss.length), ss[j].length = 128) (hw : ∀ j (h : j < ws.length), okW ws[j]) : mayB ss ws = true :=
  mayB_iff.2 ⟨hn, hm, fun x hx => by obtain ⟨j, hj, rfl⟩ := List.mem_iff_getElem.1 hx; exact hs j hj, fun x hx => by obtain ⟨j, hj, rfl⟩ := List.mem_iff_getElem.1 hx; exact hw j hj⟩

set_option maxHeartbeats 1000000 in
theorem check_any (d : Value) (ss : List Bs) (ws : List Wr) (w : World) (hd : DiskIn w w.heap.size d ss ws) :
    Calls Try.prog 26 #[d] w fun e w' => e = .returned (.int .i64 (if mayB ss ws then 0 else 8)) ∧ Below w.heap.size w w' := by
  obtain ⟨v1, v2, rfl, h1, h2⟩ := hd
  have H1 := Lib.hid h1
  have H2 := Lib.hid h2
  obtain ⟨A1, c1, rfl, -, -, -, -⟩ := h1
  obtain ⟨A2, c2, rfl, -, -, -, -⟩ := h2
  have hb0 : Below w.heap.size w (w.alloc (.cells #[.slice A1 ss.length c1, .slice A2 ws.length c2] 29)) := below_new w _
  have HB0 := Lib.hid hb0
  clear hb0
  obtain ⟨r, hr⟩ : ∃ r : Int, r = if mayB ss ws then 0 else 8 := ⟨_, rfl⟩
  rw [← hr]
  have HR := Lib.hid hr
  clear hr
  by_cases hn : ss.length = 32
  · have hn' : (ss.length : Int) = 32 := by omega
    have HN := Lib.hid hn
    clear hn
    by_cases hm : ws.length ≤ 256
    · have hm' : ¬ (256 < (ws.length : Int)) := by omega
      go_enter Try.func26, Try.ntmps26
      go_wp2_with fail
      have hb1 : (w.alloc (.cells #[.slice A1 ss.length c1, .slice A2 ws.length c2] 29)).heap[w.heap.size]? = some (.cells #[.slice A1 ss.length c1, .slice A2 ws.length c2] 29 (0, 0)) := heap_alloc_self _ _
      generalize w.alloc (.cells #[.slice A1 ss.length c1, .slice A2 ws.length c2] 29) = w1 at HB0 hb1 ⊢
      have HB1 := Lib.hid hb1
      clear hb1
      go_loopw [20] (fun s20 wr => ∃ i : Nat, i ≤ ss.length ∧ s20 = .int .i64 i ∧ Hid (∀ j (h : j < ss.length), j < i → ss[j].length = 128) ∧ wr = w1) (fun s20 _ => 32 - (intOf s20).toNat)
      case atStart => exact ⟨0, by omega, rfl, Lib.hid (fun j h h' => absurd h' (by omega)), rfl⟩
      case round =>
        obtain ⟨i, hi, rfl, hall, rfl⟩ := hrel
        by_cases hlt : i < ss.length
        · have hlt' : (i : Int) < ss.length := by omega
          obtain ⟨b, off, u, rfl, hbb, hc, ht⟩ := (H1.out.below HB0.out).at hlt
          obtain ⟨A3, c3, rfl, -, -, -, -⟩ := ht
          by_cases hl : ss[i].length = 128
          · have hl' : (ss[i].length : Int) = 128 := by omega
            have HL := Lib.hid hl
            clear hl
            go_wp2_with fail
            go_roundw
            case measure => have := HN.out; simp [intOf]; omega
            case rel => exact ⟨i + 1, by omega, by go_num, Lib.hid (fun j h h' => by
              rcases Nat.lt_or_ge j i with h2 | h2
              · exact hall.out j h h2
              · obtain rfl : j = i := by omega
                exact HL.out), by first | rfl | trivial⟩
          · have hl' : ¬ ((ss[i].length : Int) = 128) := by omega
            go_wp2_with fail
            go_ret
            exact ⟨by rw [HR.out, mayB_s hlt hl]; rfl, HB0.out⟩
        · have hlt' : ¬ ((i : Int) < ss.length) := by omega
          have hall' : Hid (∀ j (h : j < ss.length), ss[j].length = 128) := Lib.hid (fun j h => hall.out j h (by omega))
          obtain ⟨hb10, hb11⟩ := cell2_of HB1.out
          clear hall
          go_wp2_with fail
          go_loopw [31] (fun s31 wx => ∃ i : Nat, i ≤ ws.length ∧ s31 = .int .i64 i ∧ Hid (∀ j (h : j < ws.length), j < i → okW ws[j]) ∧ Below w.heap.size w wx) (fun s31 _ => ws.length - (intOf s31).toNat)
          case atStart => exact ⟨0, by omega, rfl, Lib.hid (fun j h h' => absurd h' (by omega)), HB0.out⟩
          case round =>
            obtain ⟨k, hk, rfl, hok, hbx⟩ := hrel
            clear hb10 hb11 hlt' hlt
            have HBX := Lib.hid hbx
            clear hbx
            by_cases hlt : k < ws.length
            · have hlt' : (k : Int) < ws.length := by omega
              obtain ⟨b, off, u, rfl, hbb, hc0, hc1, ht⟩ := (H2.out.below HBX.out).at hlt
              obtain ⟨A3, c3, rfl, -, -, -, -⟩ := ht
              by_cases ha : 0 ≤ ws[k].1 ∧ ws[k].1 < 32
              · have hda : decide (0 ≤ ws[k].1 ∧ ws[k].1 < 32) = true := decide_eq_true ha
                by_cases hl : ws[k].2.length = 128
                · have hl' : (ws[k].2.length : Int) = 128 := by omega
                  have HOK := Lib.hid (show okW ws[k] from ⟨ha.1, ha.2, hl⟩)
                  clear hl ha
                  go_wp2_with (refine (below_any _ _ _).mono ?_; rintro e w' ⟨rfl, rfl⟩)
                  go_roundw
                  case measure => simp [intOf]; omega
                  case rel => exact ⟨k + 1, by omega, by go_num, Lib.hid (fun j h h' => by
                    rcases Nat.lt_or_ge j k with h2 | h2
                    · exact hok.out j h h2
                    · obtain rfl : j = k := by omega
                      exact HOK.out), HBX.out.alloc HBX.out.size _⟩
                · have hl' : ¬ ((ws[k].2.length : Int) = 128) := by omega
                  have hno : mayB ss ws = false := mayB_w hlt (fun h => hl h.2.2)
                  have HNO := Lib.hid hno
                  clear hno hl ha
                  go_wp2_with (refine (below_any _ _ _).mono ?_; rintro e w' ⟨rfl, rfl⟩)
                  go_ret
                  exact ⟨by rw [HR.out, HNO.out]; rfl, HBX.out.alloc HBX.out.size _⟩
              · have hda : decide (0 ≤ ws[k].1 ∧ ws[k].1 < 32) = false := decide_eq_false ha
                have hno : mayB ss ws = false := mayB_w hlt (fun h => ha ⟨h.1, h.2.1⟩)
                have HNO := Lib.hid hno
                clear hno ha
                go_wp2_with (refine (below_any _ _ _).mono ?_; rintro e w' ⟨rfl, rfl⟩)
                go_ret
                exact ⟨by rw [HR.out, HNO.out]; rfl, HBX.out.alloc HBX.out.size _⟩
            · have hlt' : ¬ ((k : Int) < ws.length) := by omega
              go_wp2_with fail
              go_ret
              exact ⟨by rw [HR.out, mayB_all HN.out hm hall'.out (fun j h => hok.out j h (by omega))]; rfl, HBX.out⟩
    · have hm' : 256 < (ws.length : Int) := by omega
      have HNO := Lib.hid (mayB_m (ss := ss) hm)
      clear hm
      go_enter Try.func26, Try.ntmps26
      go_wp2_with fail
      go_ret
      exact ⟨by rw [HR.out, HNO.out]; rfl, HB0.out⟩
  · have hn' : ¬ ((ss.length : Int) = 32) := by omega
    have HNO := Lib.hid (mayB_n (ws := ws) hn)
    clear hn
    go_enter Try.func26, Try.ntmps26
    go_wp2_with fail
    go_ret
    exact ⟨by rw [HR.out, HNO.out]; rfl, HB0.out⟩

/-- The error of a disk and a sector's number. -/
def atE (ss : List Bs) (ws : List Wr) (at_ : Int) : Int := if mayB ss ws then (if 0 ≤ at_ ∧ at_ < 32 then 0 else 2) else 8
theorem checkAt_any (d : Value) (ss : List Bs) (ws : List Wr) (n : Int) (w : World) (hd : DiskIn w w.heap.size d ss ws) :
    Calls Try.prog 45 #[d, .int .i64 n] w fun e w' => e = .returned (.int .i64 (atE ss ws n)) ∧ Below w.heap.size w w' := by
  obtain ⟨v1, v2, rfl, h1, h2⟩ := id hd
  have HD := Lib.hid hd
  clear hd h1 h2
  have HB0 := Lib.hid (below_new w (.cells #[v1, v2] 29))
  have hc := check_any _ ss ws _ ((HD.out.below HB0.out).more HB0.out.size)
  cases hm : mayB ss ws with
  | false =>
    have hE : Hid (atE ss ws n = 8) := Lib.hid (by simp [atE, hm])
    rw [hm] at hc
    have HC := Lib.hid hc
    clear hc
    go_enter Try.func45, Try.ntmps45
    go_wp2_with (refine HC.out.mono ?_; rintro e w1 ⟨rfl, b⟩; simp only [Bool.false_eq_true, ↓reduceIte])
    go_ret
    exact ⟨by rw [hE.out]; rfl, (HB0.out.trans (b.mono HB0.out.size))⟩
  | true =>
    rw [hm] at hc
    have HC := Lib.hid hc
    clear hc
    by_cases ha : 0 ≤ n ∧ n < 32
    · have hda : decide (0 ≤ n ∧ n < 32) = true := decide_eq_true ha
      have hE : Hid (atE ss ws n = 0) := Lib.hid (by simp [atE, hm, ha])
      clear ha
      go_enter Try.func45, Try.ntmps45
      go_wp2_with (first | (refine HC.out.mono ?_; rintro e w1 ⟨rfl, b⟩; simp only [↓reduceIte]) | (refine (below_any _ _ _).mono ?_; rintro e w' ⟨rfl, rfl⟩))
      go_ret
      exact ⟨by rw [hE.out]; rfl, (HB0.out.trans (b.mono HB0.out.size))⟩
    · have hda : decide (0 ≤ n ∧ n < 32) = false := decide_eq_false ha
      have hE : Hid (atE ss ws n = 2) := Lib.hid (by simp [atE, hm, ha])
      clear ha
      go_enter Try.func45, Try.ntmps45
      go_wp2_with (first | (refine HC.out.mono ?_; rintro e w1 ⟨rfl, b⟩; simp only [↓reduceIte]) | (refine (below_any _ _ _).mono ?_; rintro e w' ⟨rfl, rfl⟩))
      go_ret
      exact ⟨by rw [hE.out]; rfl, (HB0.out.trans (b.mono HB0.out.size))⟩

theorem whole_any (n : Int) (w : World) : Calls Try.prog 50 #[.int .i64 n] w fun e w' => e = .returned (.int .i64 128) ∧ w = w' := by
  go_enter Try.func50, Try.ntmps50
  go_wp2_with fail
  go_ret
  exact ⟨rfl, rfl⟩
theorem crash1_any (i : Nat) (bk : Nat) (v : Value) (ks : List Int) (w : World) {B : Nat} (hv : NumsIn w B v ks) (hi : i < ks.length) (hb : w.heap[bk]? = some (.cells #[v] 64 (0, 0))) :
    Calls Try.prog 53 #[.int .i64 i, .pointer (some ⟨bk, 0, none⟩)] w fun e w' => e = .returned (.int .i64 ks[i]) ∧ w = w' := by
  have HV := Lib.hid hv
  obtain ⟨A, c, rfl, -, -, -, -⟩ := hv
  obtain ⟨b, off, rfl, -, hc⟩ := HV.out.at hi
  have hc0 : w.cell? ⟨bk, 0, none⟩ = some (.slice (some ⟨b, off, none⟩) ks.length c) := by rw [cell_of_row _ _ _ _ _ _ hb]; rfl
  have hi' : (i : Int) < ks.length := by omega
  clear hb
  go_enter Try.func53, Try.ntmps53
  go_wp2_with fail
  go_ret
  exact ⟨rfl, rfl⟩
end Go.Proofs.Ytdjoflhcagfmiaa
