/-
  The library's sort of a list of at most two records, the greater generation first.
  Conditions: at most two records.
-/
import Derived.Test.YtdjoflhcagfmiaaSlotMath
import Derived.Test.YtdjoflhcagfmiaaDevSync
import Derived.Test.YtdjoflhcagfmiaaDevNew
import Derived.BigRegion
import Derived.Deep.RegionHeld3
set_option linter.unusedVariables false
set_option linter.unusedSimpArgs false
set_option maxRecDepth 100000
namespace Go.Proofs.Ytdjoflhcagfmiaa
open Go.RowKit

theorem nan_any (x : Int) (w : World) : Calls Try.prog 58 #[.int .u32 x] w fun e w' => e = .returned (.bool false) ∧ w = w' := by
  go_enter Try.func58, Try.ntmps58
  go_wp2_with fail
  go_ret
  exact ⟨by simp, rfl⟩
/-- How two numbers stand to one another. -/
def cmpI (x y : Nat) : Int := if x < y then -1 else if y < x then 1 else 0
theorem compare_any (x y : Nat) (w : World) : Calls Try.prog 35 #[.int .u32 x, .int .u32 y] w fun e w' => e = .returned (.int .i64 (cmpI x y)) ∧ w = w' := by
  by_cases h : x < y
  · have h' : (x : Int) < y := by omega
    go_enter Try.func35, Try.ntmps35
    go_wp2_with (refine (nan_any _ _).mono ?_; rintro e w' ⟨rfl, rfl⟩)
    go_ret
    exact ⟨by rw [cmpI, if_pos h]; rfl, rfl⟩
  · have h' : ¬ (x : Int) < y := by omega
    by_cases h2 : y < x
    · have h2' : (y : Int) < x := by omega
      go_enter Try.func35, Try.ntmps35
      go_wp2_with (refine (nan_any _ _).mono ?_; rintro e w' ⟨rfl, rfl⟩)
      go_ret
      exact ⟨by rw [cmpI, if_neg h, if_pos h2]; rfl, rfl⟩
    · have h2' : ¬ (y : Int) < x := by omega
      go_enter Try.func35, Try.ntmps35
      go_wp2_with (refine (nan_any _ _).mono ?_; rintro e w' ⟨rfl, rfl⟩)
      go_ret
      exact ⟨by rw [cmpI, if_neg h, if_neg h2]; rfl, rfl⟩
theorem fcmp_any (a b : Nat) (A1 A2 : Option Addr) (n1 n2 c1 c2 : Nat) (w : World) :
    Calls Try.prog 34 #[.agg #[.int .u32 a, .slice A1 n1 c1], .agg #[.int .u32 b, .slice A2 n2 c2]] w fun e w' => e = .returned (.int .i64 (cmpI b a)) ∧ Below w.heap.size w w' := by
  have hb : Below w.heap.size w ((w.alloc (.cells #[.int .u32 a, .slice A1 n1 c1] 36)).alloc (.cells #[.int .u32 b, .slice A2 n2 c2] 36)) := (below_new w _).alloc (by simp) _
  have HB := Lib.hid hb
  clear hb
  go_enter Try.func34, Try.ntmps34
  go_wp2_with (refine (compare_any _ _ _).mono ?_; rintro e w' ⟨rfl, rfl⟩)
  go_ret
  exact ⟨rfl, HB.out⟩
theorem bits_len64 (n : Nat) (hn : n ≤ 2) (w : World) : Calls Try.prog 84 #[.int .u64 n] w fun e w' => (∃ k, e = .returned (.int .i64 k)) ∧ w = w' := by
  have h : n = 0 ∨ n = 1 ∨ n = 2 := by omega
  rcases h with rfl | rfl | rfl
  all_goals
    go_enter Try.func84, Try.ntmps84
    go_wp2_with fail
    go_ret
    exact ⟨⟨_, rfl⟩, rfl⟩
theorem bits_len (n : Nat) (hn : n ≤ 2) (w : World) : Calls Try.prog 57 #[.int .u64 n] w fun e w' => (∃ k, e = .returned (.int .i64 k)) ∧ w = w' := by
  go_enter Try.func57, Try.ntmps57
  go_wp2_with (refine (bits_len64 n hn _).mono ?_; rintro e w' ⟨⟨k, rfl⟩, rfl⟩)
  go_ret
  exact ⟨⟨_, rfl⟩, rfl⟩

/-- A row of two records, as its block. -/
theorem row4_of {W : World} {lo : Nat} {v a0 a1 a2 a3 : Value} (h : W.ownsRow lo 36 2 v 2 [a0, a1, a2, a3]) :
    ∃ (b cap : Nat) (rest : List Value), v = .slice (some ⟨b, 0, none⟩) 2 cap ∧ lo ≤ b ∧ W.heap[b]? = some (.cells (a0 :: a1 :: a2 :: a3 :: rest).toArray 36 (0, 0)) ∧ 2 ≤ cap ∧ cap ≤ maxLen ∧ rest.length + 4 = cap * 2 := by
  rcases h.2 with ⟨h1, h2⟩ | ⟨b, cap, cur, e, hlo, hgb, hcap, hmx, hsz, htk⟩
  · omega
  · obtain ⟨l⟩ := cur
    simp only at htk hsz hgb
    match l, htk with
    | x0 :: x1 :: x2 :: x3 :: rest, htk =>
      simp at htk
      obtain ⟨rfl, rfl, rfl, rfl⟩ := htk
      exact ⟨b, cap, rest, e, hlo, hgb, hcap, hmx, by simp at hsz; omega⟩
    | [x0, x1, x2], htk => simp at htk
    | [x0, x1], htk => simp at htk
    | [x0], htk => simp at htk
    | [], htk => simp at htk
theorem row4_to {W : World} {lo b cap : Nat} {a0 a1 a2 a3 : Value} {rest : List Value} (hlo : lo ≤ b) (h : W.heap[b]? = some (.cells (a0 :: a1 :: a2 :: a3 :: rest).toArray 36 (0, 0))) (h2 : 2 ≤ cap) (hm : cap ≤ maxLen) (hs : rest.length + 4 = cap * 2) :
    W.ownsRow lo 36 2 (.slice (some ⟨b, 0, none⟩) 2 cap) 2 [a0, a1, a2, a3] :=
  ⟨by simp, .inr ⟨b, cap, _, rfl, hlo, h, h2, hm, by simp; omega, by simp⟩⟩

/-- Two records' cells, the greater generation first. -/
def sortC (g0 g1 : Nat) (u0 u1 : Value) : List Value := if g0 < g1 then [.int .u32 (g1 : Int), u1, .int .u32 (g0 : Int), u0] else [.int .u32 (g0 : Int), u0, .int .u32 (g1 : Int), u1]
theorem cells4_of {w : World} {b : Nat} {a0 a1 a2 a3 : Value} {rest : List Value} {t : TypeId} {fr : Nat × Nat} (h : w.heap[b]? = some (.cells (a0 :: a1 :: a2 :: a3 :: rest).toArray t fr)) :
    w.cell? ⟨b, 0, none⟩ = some a0 ∧ w.cell? ⟨b, 1, none⟩ = some a1 ∧ w.cell? ⟨b, 2, none⟩ = some a2 ∧ w.cell? ⟨b, 3, none⟩ = some a3 :=
  ⟨(cell_of_row _ _ _ _ _ _ h).trans rfl, (cell_of_row _ _ _ _ _ _ h).trans rfl, (cell_of_row _ _ _ _ _ _ h).trans rfl, (cell_of_row _ _ _ _ _ _ h).trans rfl⟩

theorem grown_trans {a b c : World} {r : Option Nat} (h : a.grownBy b r) (k : b.grownBy c r) : a.grownBy c r :=
  ⟨k.os.trans h.os, k.tape.trans h.tape, k.output.trans h.output, Nat.le_trans h.size k.size, fun i hi hne => (k.block i (Nat.lt_of_lt_of_le hi h.size) hne).trans (h.block i hi hne)⟩
theorem grown_drew {a b : World} {r : Option Nat} (h : a.grownBy b r) : a.grownBy b.drew r := ⟨h.os, h.tape, h.output, h.size, h.block⟩
theorem swap4 {w : World} {b : Nat} {a0 a1 a2 a3 : Value} {rest : List Value} {t : TypeId} (h : w.heap[b]? = some (.cells (a0 :: a1 :: a2 :: a3 :: rest).toArray t (0, 0))) (x0 x1 x2 x3 : Value) :
    w.grownBy ((((w.setCell ⟨b, 2, none⟩ x2).setCell ⟨b, 3, none⟩ x3).setCell ⟨b, 0, none⟩ x0).setCell ⟨b, 1, none⟩ x1) (some b) ∧
    ((((w.setCell ⟨b, 2, none⟩ x2).setCell ⟨b, 3, none⟩ x3).setCell ⟨b, 0, none⟩ x0).setCell ⟨b, 1, none⟩ x1).heap[b]? = some (.cells (x0 :: x1 :: x2 :: x3 :: rest).toArray t (0, 0)) := by
  refine ⟨grown_trans (grown_trans (grown_trans (grown_set _ b 2 _) (grown_set _ b 3 _)) (grown_set _ b 0 _)) (grown_set _ b 1 _), ?_⟩
  have h1 := heap_setCell_same w b 2 _ _ x2 h
  have h2 := heap_setCell_same _ b 3 _ _ x3 h1
  have h3 := heap_setCell_same _ b 0 _ _ x0 h2
  have h4 := heap_setCell_same _ b 1 _ _ x1 h3
  rw [h4]
  simp

set_option maxHeartbeats 4000000 in
theorem insert2_any (b cap g0 g1 n0 n1 c0 c1 : Nat) (A0 A1 : Option Addr) (rest : List Value) (w : World) (hcap : 2 ≤ cap)
    (h : w.heap[b]? = some (.cells (.int .u32 (g0 : Int) :: .slice A0 n0 c0 :: .int .u32 (g1 : Int) :: .slice A1 n1 c1 :: rest).toArray 36 (0, 0))) :
    Calls Try.prog 75 #[.slice (some ⟨b, 0, none⟩) 2 cap, .int .i64 0, .int .i64 2, .func (.func 34) #[] #[]] w fun e w' => (∃ x, e = .returned x) ∧ w.grownBy w' (some b) ∧
      w'.heap[b]? = some (.cells (sortC g0 g1 (.slice A0 n0 c0) (.slice A1 n1 c1) ++ rest).toArray 36 (0, 0)) := by
  have H := Lib.hid h
  clear h
  go_enter Try.func75, Try.ntmps75
  go_wp2_with fail
  go_loopw [8] (fun s8 wr => (s8 = .int .i64 1 ∧ wr = w) ∨ (s8 = .int .i64 2 ∧ w.grownBy wr (some b) ∧ wr.heap[b]? = some (.cells (sortC g0 g1 (.slice A0 n0 c0) (.slice A1 n1 c1) ++ rest).toArray 36 (0, 0)))) (fun s8 _ => 2 - (intOf s8).toNat)
  case atStart => exact .inl ⟨rfl, rfl⟩
  case round =>
    rcases hrel with ⟨rfl, hw⟩ | ⟨rfl, hg, hh⟩
    · subst hw
      rename World => w1
      go_wp2_with fail
      go_loopw [9] (fun s9 wq => (s9 = .int .i64 1 ∧ wq = w1) ∨ (s9 = .int .i64 0 ∧ g0 < g1 ∧ w1.grownBy wq (some b) ∧ wq.heap[b]? = some (.cells (sortC g0 g1 (.slice A0 n0 c0) (.slice A1 n1 c1) ++ rest).toArray 36 (0, 0)))) (fun s9 _ => (intOf s9).toNat)
      case atStart => exact .inl ⟨rfl, rfl⟩
      case round =>
        rcases hrel with ⟨rfl, hw⟩ | ⟨rfl, hlt, hg, hh⟩
        · subst hw
          rename World => wq
          go_wp2_with fail
          have hw0 : IntKind.i64.wrap 0 = 0 := by decide
          refine wp_region_held_drew (S := fun w' => Below wq.heap.size wq.drew w') (by kernel_rfl) (Below.refl _ _) (fun hHeld => ?_)
          refine wpAnyH_take (i := 0) (v := ?_) rfl (by kernel_rfl) (by kernel_rfl) (by kernel_rfl) (fun _ _ _ h => h) (Or.inl ⟨by rfl, ?_⟩) hHeld ?_
          rotate_left
          · intro w' hSw; go_simp; try with_reducible rfl
          simp only [List.getElem_toArray, List.getElem_cons_succ, List.getElem_cons_zero, Act.put, List.setIfInBounds_toArray, List.set_cons_zero, List.set_cons_succ]
          refine wpAnyH_take (i := 1) (v := ?_) rfl (by kernel_rfl) (by kernel_rfl) (by kernel_rfl) (fun _ _ _ h => h) (Or.inl ⟨by rfl, ?_⟩) hHeld ?_
          rotate_left
          · intro w' hSw; go_simp; try with_reducible rfl
          simp only [List.getElem_toArray, List.getElem_cons_succ, List.getElem_cons_zero, Act.put, List.setIfInBounds_toArray, List.set_cons_zero, List.set_cons_succ]
          refine wpAnyH_take (i := 2) (v := ?_) rfl (by kernel_rfl) (by kernel_rfl) (by kernel_rfl) (fun _ _ _ h => h) (Or.inl ⟨by rfl, ?_⟩) hHeld ?_
          rotate_left
          · intro w' hSw; go_simp; try with_reducible rfl
          simp only [List.getElem_toArray, List.getElem_cons_succ, List.getElem_cons_zero, Act.put, List.setIfInBounds_toArray, List.set_cons_zero, List.set_cons_succ]
          refine wpAnyH_take (i := 3) (v := ?_) rfl (by kernel_rfl) (by kernel_rfl) (by kernel_rfl) (fun _ _ _ h => h) (Or.inl ⟨by rfl, ?_⟩) hHeld ?_
          rotate_left
          · intro w' hSw; go_simp; try with_reducible rfl
          simp only [List.getElem_toArray, List.getElem_cons_succ, List.getElem_cons_zero, Act.put, List.setIfInBounds_toArray, List.set_cons_zero, List.set_cons_succ]
          refine wpAnyH_take (i := 4) (v := ?_) rfl (by kernel_rfl) (by kernel_rfl) (by kernel_rfl) (fun _ _ _ h => h) (Or.inl ⟨by rfl, ?_⟩) hHeld ?_
          rotate_left
          · intro w' hSw; go_simp; try with_reducible rfl
          simp only [List.getElem_toArray, List.getElem_cons_succ, List.getElem_cons_zero, Act.put, List.setIfInBounds_toArray, List.set_cons_zero, List.set_cons_succ]
          refine wpAnyH_take (i := 5) (v := ?_) rfl (by kernel_rfl) (by kernel_rfl) (by kernel_rfl) (fun _ _ _ h => h) (Or.inl ⟨by rfl, ?_⟩) hHeld ?_
          rotate_left
          · intro w' hSw; go_simp; try with_reducible rfl
          simp only [List.getElem_toArray, List.getElem_cons_succ, List.getElem_cons_zero, Act.put, List.setIfInBounds_toArray, List.set_cons_zero, List.set_cons_succ]
          refine wpAnyH_take (i := 6) (v := ?_) rfl (by kernel_rfl) (by kernel_rfl) (by kernel_rfl) (fun _ _ _ h => h) (Or.inl ⟨by rfl, ?_⟩) hHeld ?_
          rotate_left
          · intro w' hSw; go_simp; try with_reducible rfl
          simp only [List.getElem_toArray, List.getElem_cons_succ, List.getElem_cons_zero, Act.put, List.setIfInBounds_toArray, List.set_cons_zero, List.set_cons_succ]
          refine wpAnyH_take (i := 7) (v := ?_) rfl (by kernel_rfl) (by kernel_rfl) (by kernel_rfl) (fun _ _ _ h => h) (Or.inl ⟨by rfl, ?_⟩) hHeld ?_
          rotate_left
          · intro w' hSw; go_simp; try with_reducible rfl
          simp only [List.getElem_toArray, List.getElem_cons_succ, List.getElem_cons_zero, Act.put, List.setIfInBounds_toArray, List.set_cons_zero, List.set_cons_succ]
          refine wpAnyH_take (i := 8) (v := ?_) rfl (by kernel_rfl) (by kernel_rfl) (by kernel_rfl) (fun _ _ _ h => h) (Or.inl ⟨by rfl, ?_⟩) hHeld ?_
          rotate_left
          · intro w' hSw; obtain ⟨d0, d1, d2, d3⟩ := cells4_of (((show Below wq.heap.size wq.drew w' from hSw).block b (heap_lt H.out)).trans H.out); go_simp; try with_reducible rfl
          simp only [List.getElem_toArray, List.getElem_cons_succ, List.getElem_cons_zero, Act.put, List.setIfInBounds_toArray, List.set_cons_zero, List.set_cons_succ]
          refine wpAnyH_take (i := 9) (v := ?_) rfl (by kernel_rfl) (by kernel_rfl) (by kernel_rfl) (fun _ _ _ h => h) (Or.inl ⟨by rfl, ?_⟩) hHeld ?_
          rotate_left
          · intro w' hSw; go_simp; try with_reducible rfl
          simp only [List.getElem_toArray, List.getElem_cons_succ, List.getElem_cons_zero, Act.put, List.setIfInBounds_toArray, List.set_cons_zero, List.set_cons_succ]
          refine wpAnyH_take (i := 10) (v := ?_) rfl (by kernel_rfl) (by kernel_rfl) (by kernel_rfl) (fun _ _ _ h => h) (Or.inl ⟨by rfl, ?_⟩) hHeld ?_
          rotate_left
          · intro w' hSw; go_simp; try with_reducible rfl
          simp only [List.getElem_toArray, List.getElem_cons_succ, List.getElem_cons_zero, Act.put, List.setIfInBounds_toArray, List.set_cons_zero, List.set_cons_succ]
          refine wpAnyH_take (i := 11) (v := ?_) rfl (by kernel_rfl) (by kernel_rfl) (by kernel_rfl) (fun _ _ _ h => h) (Or.inl ⟨by rfl, ?_⟩) hHeld ?_
          rotate_left
          · intro w' hSw; go_simp; try with_reducible rfl
          simp only [List.getElem_toArray, List.getElem_cons_succ, List.getElem_cons_zero, Act.put, List.setIfInBounds_toArray, List.set_cons_zero, List.set_cons_succ]
          refine wpAnyH_take (i := 12) (v := ?_) rfl (by kernel_rfl) (by kernel_rfl) (by kernel_rfl) (fun _ _ _ h => h) (Or.inl ⟨by rfl, ?_⟩) hHeld ?_
          rotate_left
          · intro w' hSw; go_simp; try with_reducible rfl
          simp only [List.getElem_toArray, List.getElem_cons_succ, List.getElem_cons_zero, Act.put, List.setIfInBounds_toArray, List.set_cons_zero, List.set_cons_succ]
          refine wpAnyH_take (i := 13) (v := ?_) rfl (by kernel_rfl) (by kernel_rfl) (by kernel_rfl) (fun _ _ _ h => h) (Or.inl ⟨by rfl, ?_⟩) hHeld ?_
          rotate_left
          · intro w' hSw; obtain ⟨d0, d1, d2, d3⟩ := cells4_of (((show Below wq.heap.size wq.drew w' from hSw).block b (heap_lt H.out)).trans H.out); go_simp; try with_reducible rfl
          simp only [List.getElem_toArray, List.getElem_cons_succ, List.getElem_cons_zero, Act.put, List.setIfInBounds_toArray, List.set_cons_zero, List.set_cons_succ]
          refine wpAnyH_ready (rs := [14]) (by kernel_rfl) (by simp) ?_
          refine AllReadyH.cons rfl (fun K hK => ?_) AllReadyH.nil
          go_simp
          refine (fcmp_any g1 g0 A1 A0 n1 n0 c1 c0 wq.drew).mono ?_
          rintro e wA ⟨rfl, bA⟩
          have BA : Hid (Below wq.heap.size wq.drew wA) := Lib.hid bA
          clear bA
          try go_wp2_with fail
          refine hK.out _ _ ?_ (fun hHeld => ?_)
          · exact BA.out
          clear hK K
          try simp only [List.getElem_toArray, List.getElem_cons_succ, List.getElem_cons_zero, Act.put, List.setIfInBounds_toArray, List.set_cons_zero, List.set_cons_succ]
          refine wpAnyH_take (i := 15) (v := ?_) rfl (by kernel_rfl) (by kernel_rfl) (by kernel_rfl) (fun _ _ _ h => h) (Or.inl ⟨by rfl, ?_⟩) hHeld ?_
          rotate_left
          · intro w' hSw; go_simp; try with_reducible rfl
          simp only [List.getElem_toArray, List.getElem_cons_succ, List.getElem_cons_zero, Act.put, List.setIfInBounds_toArray, List.set_cons_zero, List.set_cons_succ]
          refine wpAnyH_take (i := 16) (v := ?_) rfl (by kernel_rfl) (by kernel_rfl) (by kernel_rfl) (fun _ _ _ h => h) (Or.inl ⟨by rfl, ?_⟩) hHeld ?_
          rotate_left
          · intro w' hSw; go_simp; try with_reducible rfl
          simp only [List.getElem_toArray, List.getElem_cons_succ, List.getElem_cons_zero, Act.put, List.setIfInBounds_toArray, List.set_cons_zero, List.set_cons_succ]
          refine wpAnyH_done (by kernel_rfl) ?_ _
          have hA := (BA.out.block b (heap_lt H.out)).trans H.out
          have HA := Lib.hid hA
          have GA : Hid (wq.grownBy wA (some b)) := Lib.hid ⟨BA.out.os, BA.out.tape, BA.out.output, BA.out.size, fun i hi _ => BA.out.block i hi⟩
          by_cases hlt : g0 < g1
          · have hd : decide (cmpI g0 g1 < 0) = true := decide_eq_true (by rw [cmpI, if_pos hlt]; omega)
            rw [hd]
            have hz1 : wA.heap[b]? = _ := hA
            obtain ⟨d0, d1, d2, d3⟩ := cells4_of hz1
            have f0 := frozen_of_row _ b 0 _ _ hz1
            have f1 := frozen_of_row _ b 1 _ _ hz1
            have f2 := frozen_of_row _ b 2 _ _ hz1
            have f3 := frozen_of_row _ b 3 _ _ hz1
            clear hA hz1 hHeld hd
            go_wp2_with fail
            go_region
            obtain ⟨sg, sh⟩ := swap4 HA.out (.int .u32 (g1 : Int)) (.slice A1 n1 c1) (.int .u32 (g0 : Int)) (.slice A0 n0 c0)
            have SG := Lib.hid (grown_trans GA.out sg)
            have SH := Lib.hid sh
            clear sg sh d0 d1 d2 d3 f0 f1 f2 f3
            generalize (((wA.setCell ⟨b, 2, none⟩ (.int .u32 (g0 : Int))).setCell ⟨b, 3, none⟩ (.slice A0 n0 c0)).setCell ⟨b, 0, none⟩ (.int .u32 (g1 : Int))).setCell ⟨b, 1, none⟩ (.slice A1 n1 c1) = wS at SG SH ⊢
            go_wp2_with fail
            go_roundw
            case measure => simp [intOf]
            case rel => exact .inr ⟨by go_num, hlt, grown_drew SG.out, by rw [sortC, if_pos hlt]; exact SH.out⟩
          · have hd : decide (cmpI g0 g1 < 0) = false := decide_eq_false (by rw [cmpI, if_neg hlt]; split <;> omega)
            rw [hd]
            have hsc : (sortC g0 g1 (.slice A0 n0 c0) (.slice A1 n1 c1) ++ rest) = .int .u32 (g0 : Int) :: .slice A0 n0 c0 :: .int .u32 (g1 : Int) :: .slice A1 n1 c1 :: rest := by rw [sortC, if_neg hlt]; rfl
            have HSC := Lib.hid hsc
            clear hA hHeld hd hsc
            go_wp2_with fail
            go_roundw
            case measure => simp [intOf]
            case rel => exact .inr ⟨by go_num, GA.out, by rw [HSC.out]; exact HA.out⟩
        · rename World => wq
          have HH := Lib.hid hh
          have HG := Lib.hid hg
          clear hh hg
          go_wp2_with fail
          refine wp_region_held_drew (S := fun w' => True) (by kernel_rfl) trivial (fun hHeld => ?_)
          refine wpAnyH_take (i := 0) (v := ?_) rfl (by kernel_rfl) (by kernel_rfl) (by kernel_rfl) (fun _ _ _ h => h) (Or.inl ⟨by rfl, ?_⟩) hHeld ?_
          rotate_left
          · intro w' hSw; go_simp; try with_reducible rfl
          simp only [List.getElem_toArray, List.getElem_cons_succ, List.getElem_cons_zero, Act.put, List.setIfInBounds_toArray, List.set_cons_zero, List.set_cons_succ]
          refine wpAnyH_take (i := 1) (v := ?_) rfl (by kernel_rfl) (by kernel_rfl) (by kernel_rfl) (fun _ _ _ h => h) (Or.inl ⟨by rfl, ?_⟩) hHeld ?_
          rotate_left
          · intro w' hSw; go_simp; try with_reducible rfl
          simp only [List.getElem_toArray, List.getElem_cons_succ, List.getElem_cons_zero, Act.put, List.setIfInBounds_toArray, List.set_cons_zero, List.set_cons_succ]
          refine wpAnyH_take (i := 2) (v := ?_) rfl (by kernel_rfl) (by kernel_rfl) (by kernel_rfl) (fun _ _ _ h => h) (Or.inl ⟨by rfl, ?_⟩) hHeld ?_
          rotate_left
          · intro w' hSw; go_simp; try with_reducible rfl
          simp only [List.getElem_toArray, List.getElem_cons_succ, List.getElem_cons_zero, Act.put, List.setIfInBounds_toArray, List.set_cons_zero, List.set_cons_succ]
          refine wpAnyH_take (i := 3) (v := ?_) rfl (by kernel_rfl) (by kernel_rfl) (by kernel_rfl) (fun _ _ _ h => h) (Or.inl ⟨by rfl, ?_⟩) hHeld ?_
          rotate_left
          · intro w' hSw; go_simp; try with_reducible rfl
          simp only [List.getElem_toArray, List.getElem_cons_succ, List.getElem_cons_zero, Act.put, List.setIfInBounds_toArray, List.set_cons_zero, List.set_cons_succ]
          refine wpAnyH_take (i := 4) (v := undef) rfl (by kernel_rfl) (by kernel_rfl) (by kernel_rfl) (fun _ _ _ h => h) (Or.inr ⟨by rfl, rfl⟩) hHeld ?_
          simp only [List.getElem_toArray, List.getElem_cons_succ, List.getElem_cons_zero, Act.put, List.setIfInBounds_toArray, List.set_cons_zero, List.set_cons_succ]
          refine wpAnyH_take (i := 5) (v := undef) rfl (by kernel_rfl) (by kernel_rfl) (by kernel_rfl) (fun _ _ _ h => h) (Or.inr ⟨by rfl, rfl⟩) hHeld ?_
          simp only [List.getElem_toArray, List.getElem_cons_succ, List.getElem_cons_zero, Act.put, List.setIfInBounds_toArray, List.set_cons_zero, List.set_cons_succ]
          refine wpAnyH_take (i := 6) (v := undef) rfl (by kernel_rfl) (by kernel_rfl) (by kernel_rfl) (fun _ _ _ h => h) (Or.inr ⟨by rfl, rfl⟩) hHeld ?_
          simp only [List.getElem_toArray, List.getElem_cons_succ, List.getElem_cons_zero, Act.put, List.setIfInBounds_toArray, List.set_cons_zero, List.set_cons_succ]
          refine wpAnyH_take (i := 7) (v := undef) rfl (by kernel_rfl) (by kernel_rfl) (by kernel_rfl) (fun _ _ _ h => h) (Or.inr ⟨by rfl, rfl⟩) hHeld ?_
          simp only [List.getElem_toArray, List.getElem_cons_succ, List.getElem_cons_zero, Act.put, List.setIfInBounds_toArray, List.set_cons_zero, List.set_cons_succ]
          refine wpAnyH_take (i := 8) (v := undef) rfl (by kernel_rfl) (by kernel_rfl) (by kernel_rfl) (fun _ _ _ h => h) (Or.inr ⟨by rfl, rfl⟩) hHeld ?_
          simp only [List.getElem_toArray, List.getElem_cons_succ, List.getElem_cons_zero, Act.put, List.setIfInBounds_toArray, List.set_cons_zero, List.set_cons_succ]
          refine wpAnyH_take (i := 9) (v := undef) rfl (by kernel_rfl) (by kernel_rfl) (by kernel_rfl) (fun _ _ _ h => h) (Or.inr ⟨by rfl, rfl⟩) hHeld ?_
          simp only [List.getElem_toArray, List.getElem_cons_succ, List.getElem_cons_zero, Act.put, List.setIfInBounds_toArray, List.set_cons_zero, List.set_cons_succ]
          refine wpAnyH_take (i := 10) (v := undef) rfl (by kernel_rfl) (by kernel_rfl) (by kernel_rfl) (fun _ _ _ h => h) (Or.inr ⟨by rfl, rfl⟩) hHeld ?_
          simp only [List.getElem_toArray, List.getElem_cons_succ, List.getElem_cons_zero, Act.put, List.setIfInBounds_toArray, List.set_cons_zero, List.set_cons_succ]
          refine wpAnyH_take (i := 11) (v := undef) rfl (by kernel_rfl) (by kernel_rfl) (by kernel_rfl) (fun _ _ _ h => h) (Or.inr ⟨by rfl, rfl⟩) hHeld ?_
          simp only [List.getElem_toArray, List.getElem_cons_succ, List.getElem_cons_zero, Act.put, List.setIfInBounds_toArray, List.set_cons_zero, List.set_cons_succ]
          refine wpAnyH_take (i := 12) (v := undef) rfl (by kernel_rfl) (by kernel_rfl) (by kernel_rfl) (fun _ _ _ h => h) (Or.inr ⟨by rfl, rfl⟩) hHeld ?_
          simp only [List.getElem_toArray, List.getElem_cons_succ, List.getElem_cons_zero, Act.put, List.setIfInBounds_toArray, List.set_cons_zero, List.set_cons_succ]
          refine wpAnyH_take (i := 13) (v := undef) rfl (by kernel_rfl) (by kernel_rfl) (by kernel_rfl) (fun _ _ _ h => h) (Or.inr ⟨by rfl, rfl⟩) hHeld ?_
          simp only [List.getElem_toArray, List.getElem_cons_succ, List.getElem_cons_zero, Act.put, List.setIfInBounds_toArray, List.set_cons_zero, List.set_cons_succ]
          refine wpAnyH_take (i := 14) (v := undef) rfl (by kernel_rfl) (by kernel_rfl) (by kernel_rfl) (fun _ _ _ h => h) (Or.inr ⟨by rfl, rfl⟩) hHeld ?_
          simp only [List.getElem_toArray, List.getElem_cons_succ, List.getElem_cons_zero, Act.put, List.setIfInBounds_toArray, List.set_cons_zero, List.set_cons_succ]
          refine wpAnyH_take (i := 15) (v := undef) rfl (by kernel_rfl) (by kernel_rfl) (by kernel_rfl) (fun _ _ _ h => h) (Or.inr ⟨by rfl, rfl⟩) hHeld ?_
          simp only [List.getElem_toArray, List.getElem_cons_succ, List.getElem_cons_zero, Act.put, List.setIfInBounds_toArray, List.set_cons_zero, List.set_cons_succ]
          refine wpAnyH_take (i := 16) (v := ?_) rfl (by kernel_rfl) (by kernel_rfl) (by kernel_rfl) (fun _ _ _ h => h) (Or.inl ⟨by rfl, ?_⟩) hHeld ?_
          rotate_left
          · intro w' hSw; go_simp; try with_reducible rfl
          simp only [List.getElem_toArray, List.getElem_cons_succ, List.getElem_cons_zero, Act.put, List.setIfInBounds_toArray, List.set_cons_zero, List.set_cons_succ]
          refine wpAnyH_done (by kernel_rfl) ?_ _
          go_wp2_with fail
          go_roundw
          case measure => simp [intOf]
          case rel => exact .inr ⟨by go_num, grown_drew HG.out, HH.out⟩
    · go_wp2_with fail
      go_end0
      exact ⟨⟨_, rfl⟩, hg, hh⟩

theorem insert1_any (A : Option Addr) (n cap : Nat) (hn : n ≤ 1) (w : World) :
    Calls Try.prog 75 #[.slice A n cap, .int .i64 0, .int .i64 n, .func (.func 34) #[] #[]] w fun e w' => (∃ x, e = .returned x) ∧ w = w' := by
  have h : ¬ (1 : Int) < n := by omega
  go_enter Try.func75, Try.ntmps75
  go_wp2_with fail
  go_loopw [8] (fun s8 wr => s8 = .int .i64 1 ∧ wr = w) (fun s8 _ => 0)
  case atStart => exact ⟨rfl, rfl⟩
  case round =>
    obtain ⟨rfl, hw⟩ := hrel
    subst hw
    go_wp2_with fail
    go_end0
    exact ⟨⟨_, rfl⟩, rfl⟩

/-- What the sort of one or no record, or of two, leaves. -/
theorem pdq1_any (A : Option Addr) (n cap : Nat) (hn : n ≤ 1) (k : Int) (w : World) :
    Calls Try.prog 56 #[.slice A n cap, .int .i64 0, .int .i64 n, .int .i64 k, .func (.func 34) #[] #[]] w fun e w' => (∃ x, e = .returned x) ∧ w = w' := by
  have h : (n : Int) ≤ 12 := by omega
  go_enter Try.func56, Try.ntmps56
  go_wp2_with fail
  go_loopw [1, 2] (fun s1 s2 wr => s1 = .int .i64 0 ∧ s2 = .int .i64 n ∧ wr = w) (fun _ _ _ => 0)
  case atStart => exact ⟨rfl, rfl, rfl⟩
  case round =>
    obtain ⟨rfl, rfl, hw⟩ := hrel
    subst hw
    go_wp2_with (refine (insert1_any A n cap hn _).mono ?_; rintro e w' ⟨⟨x, rfl⟩, rfl⟩)
    refine bodyPost_ret (results_none rfl _ _ _) rfl ?_
    exact ⟨⟨_, rfl⟩, rfl⟩
theorem sort1_any (A : Option Addr) (n cap : Nat) (hn : n ≤ 1) (w : World) :
    Calls Try.prog 33 #[.slice A n cap, .func (.func 34) #[] #[]] w fun e w' => (∃ x, e = .returned x) ∧ w = w' := by
  go_enter Try.func33, Try.ntmps33
  go_wp2_with (first | (refine (bits_len n (by omega) _).mono ?_; rintro e w' ⟨⟨k, rfl⟩, rfl⟩) | (refine (pdq1_any A n cap hn _ _).mono ?_; rintro e w' ⟨⟨x, rfl⟩, rfl⟩))
  go_end0
  exact ⟨⟨_, rfl⟩, rfl⟩
theorem pdq2_any (b cap g0 g1 n0 n1 c0 c1 : Nat) (A0 A1 : Option Addr) (rest : List Value) (k : Int) (w : World) (hcap : 2 ≤ cap)
    (h : w.heap[b]? = some (.cells (.int .u32 (g0 : Int) :: .slice A0 n0 c0 :: .int .u32 (g1 : Int) :: .slice A1 n1 c1 :: rest).toArray 36 (0, 0))) :
    Calls Try.prog 56 #[.slice (some ⟨b, 0, none⟩) 2 cap, .int .i64 0, .int .i64 2, .int .i64 k, .func (.func 34) #[] #[]] w fun e w' => (∃ x, e = .returned x) ∧ w.grownBy w' (some b) ∧
      w'.heap[b]? = some (.cells (sortC g0 g1 (.slice A0 n0 c0) (.slice A1 n1 c1) ++ rest).toArray 36 (0, 0)) := by
  have H := Lib.hid h
  clear h
  go_enter Try.func56, Try.ntmps56
  go_wp2_with fail
  go_loopw [1, 2] (fun s1 s2 wr => s1 = .int .i64 0 ∧ s2 = .int .i64 2 ∧ wr = w) (fun _ _ _ => 0)
  case atStart => exact ⟨rfl, rfl, rfl⟩
  case round =>
    obtain ⟨rfl, rfl, hw⟩ := hrel
    subst hw
    go_wp2_with fail
    refine (insert2_any b cap g0 g1 n0 n1 c0 c1 A0 A1 rest _ hcap H.out).mono ?_
    rintro e w1 ⟨⟨x, rfl⟩, hg, hh⟩
    have HG := Lib.hid hg
    have HH := Lib.hid hh
    clear hg hh
    go_wp2_with fail
    refine bodyPost_ret (results_none rfl _ _ _) rfl ?_
    exact ⟨⟨_, rfl⟩, HG.out, HH.out⟩
theorem sort2_any (b cap g0 g1 n0 n1 c0 c1 : Nat) (A0 A1 : Option Addr) (rest : List Value) (w : World) (hcap : 2 ≤ cap)
    (h : w.heap[b]? = some (.cells (.int .u32 (g0 : Int) :: .slice A0 n0 c0 :: .int .u32 (g1 : Int) :: .slice A1 n1 c1 :: rest).toArray 36 (0, 0))) :
    Calls Try.prog 33 #[.slice (some ⟨b, 0, none⟩) 2 cap, .func (.func 34) #[] #[]] w fun e w' => (∃ x, e = .returned x) ∧ w.grownBy w' (some b) ∧
      w'.heap[b]? = some (.cells (sortC g0 g1 (.slice A0 n0 c0) (.slice A1 n1 c1) ++ rest).toArray 36 (0, 0)) := by
  have H := Lib.hid h
  clear h
  go_enter Try.func33, Try.ntmps33
  go_wp2_with (refine (bits_len 2 (by omega) _).mono ?_; rintro e w' ⟨⟨k, rfl⟩, rfl⟩)
  refine (pdq2_any b cap g0 g1 n0 n1 c0 c1 A0 A1 rest k _ hcap H.out).mono ?_
  rintro e w1 ⟨⟨x, rfl⟩, hg, hh⟩
  have HG := Lib.hid hg
  have HH := Lib.hid hh
  clear hg hh
  go_wp2_with fail
  go_end0
  exact ⟨⟨_, rfl⟩, HG.out, HH.out⟩
end Go.Proofs.Ytdjoflhcagfmiaa
