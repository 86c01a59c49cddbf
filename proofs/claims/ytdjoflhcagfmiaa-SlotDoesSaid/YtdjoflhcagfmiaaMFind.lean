/-
  The library's sort of a list of at most two records, the greater generation first.
  Conditions: at most two records.
-/
import Derived.Test.YtdjoflhcagfmiaaMSlot
import Derived.Test.YtdjoflhcagfmiaaMDisk
import Derived.BigRegion
import Derived.Deep.RegionHeld3
import Derived.Test.YtdjoflhcagfmiaaMSecs
import Derived.Laws.Cover1
import Derived.BigQuiet
import Derived.Deep.QuietTactic
import Derived.StillTailTactics
import Derived.Test.YtdjoflhcagfmiaaMDev
set_option linter.unusedVariables false
set_option linter.unusedSimpArgs false
set_option maxRecDepth 100000
namespace Go.Proofs.Ytdjoflhcagfmiaa
open Go.RowKit

theorem nan_any (x : Int) (w : World) : Calls Try.prog 58 #[.int .u32 x] w fun e w' => e = .returned (.bool false) ∧ w = w' := by
  go_enter Try.func58, Try.ntmps58
  go_wp2_with fail
  go_ret
  exact ⟨by simp, rfl⟩
/-- How two numbers stand to one another. -/
def cmpI (x y : Nat) : Int := if x < y then -1 else if y < x then 1 else 0
theorem compare_any (x y : Nat) (w : World) : Calls Try.prog 35 #[.int .u32 x, .int .u32 y] w fun e w' => e = .returned (.int .i64 (cmpI x y)) ∧ w = w' := by
  by_cases h : x < y
  · have h' : (x : Int) < y := by omega
    go_enter Try.func35, Try.ntmps35
    go_wp2_with (refine (nan_any _ _).mono ?_; rintro e w' ⟨rfl, rfl⟩)
    go_ret
    exact ⟨by rw [cmpI, if_pos h]; rfl, rfl⟩
  · have h' : ¬ (x : Int) < y := by omega
    by_cases h2 : y < x
    · have h2' : (y : Int) < x := by omega
      go_enter Try.func35, Try.ntmps35
      go_wp2_with (refine (nan_any _ _).mono ?_; rintro e w' ⟨rfl, rfl⟩)
      go_ret
      exact ⟨by rw [cmpI, if_neg h, if_pos h2]; rfl, rfl⟩
    · have h2' : ¬ (y : Int) < x := by omega
      go_enter Try.func35, Try.ntmps35
      go_wp2_with (refine (nan_any _ _).mono ?_; rintro e w' ⟨rfl, rfl⟩)
      go_ret
      exact ⟨by rw [cmpI, if_neg h, if_neg h2]; rfl, rfl⟩
theorem fcmp_any (a b : Nat) (A1 A2 : Option Addr) (n1 n2 c1 c2 : Nat) (w : World) :
    Calls Try.prog 34 #[.agg #[.int .u32 a, .slice A1 n1 c1], .agg #[.int .u32 b, .slice A2 n2 c2]] w fun e w' => e = .returned (.int .i64 (cmpI b a)) ∧ Below w.heap.size w w' := by
  have hb : Below w.heap.size w ((w.alloc (.cells #[.int .u32 a, .slice A1 n1 c1] 36)).alloc (.cells #[.int .u32 b, .slice A2 n2 c2] 36)) := (below_new w _).alloc (by simp) _
  have HB := Lib.hid hb
  clear hb
  go_enter Try.func34, Try.ntmps34
  go_wp2_with (refine (compare_any _ _ _).mono ?_; rintro e w' ⟨rfl, rfl⟩)
  go_ret
  exact ⟨rfl, HB.out⟩
theorem bits_len64 (n : Nat) (hn : n ≤ 2) (w : World) : Calls Try.prog 84 #[.int .u64 n] w fun e w' => (∃ k, e = .returned (.int .i64 k)) ∧ w = w' := by
  have h : n = 0 ∨ n = 1 ∨ n = 2 := by omega
  rcases h with rfl | rfl | rfl
  all_goals
    go_enter Try.func84, Try.ntmps84
    go_wp2_with fail
    go_ret
    exact ⟨⟨_, rfl⟩, rfl⟩
theorem bits_len (n : Nat) (hn : n ≤ 2) (w : World) : Calls Try.prog 57 #[.int .u64 n] w fun e w' => (∃ k, e = .returned (.int .i64 k)) ∧ w = w' := by
  go_enter Try.func57, Try.ntmps57
  go_wp2_with (refine (bits_len64 n hn _).mono ?_; rintro e w' ⟨⟨k, rfl⟩, rfl⟩)
  go_ret
  exact ⟨⟨_, rfl⟩, rfl⟩

/-- A row of two records, as its block. -/
theorem row4_of {W : World} {lo : Nat} {v a0 a1 a2 a3 : Value} (h : W.ownsRow lo 36 2 v 2 [a0, a1, a2, a3]) :
    ∃ (b cap : Nat) (rest : List Value), v = .slice (some ⟨b, 0, none⟩) 2 cap ∧ lo ≤ b ∧ W.heap[b]? = some (.cells (a0 :: a1 :: a2 :: a3 :: rest).toArray 36 (0, 0)) ∧ 2 ≤ cap ∧ cap ≤ maxLen ∧ rest.length + 4 = cap * 2 := by
  rcases h.2 with ⟨h1, h2⟩ | ⟨b, cap, cur, e, hlo, hgb, hcap, hmx, hsz, htk⟩
  · omega
  · obtain ⟨l⟩ := cur
    simp only at htk hsz hgb
    match l, htk with
    | x0 :: x1 :: x2 :: x3 :: rest, htk =>
      simp at htk
      obtain ⟨rfl, rfl, rfl, rfl⟩ := htk
      exact ⟨b, cap, rest, e, hlo, hgb, hcap, hmx, by simp at hsz; omega⟩
    | [x0, x1, x2], htk => simp at htk
    | [x0, x1], htk => simp at htk
    | [x0], htk => simp at htk
    | [], htk => simp at htk
theorem row4_to {W : World} {lo b cap : Nat} {a0 a1 a2 a3 : Value} {rest : List Value} (hlo : lo ≤ b) (h : W.heap[b]? = some (.cells (a0 :: a1 :: a2 :: a3 :: rest).toArray 36 (0, 0))) (h2 : 2 ≤ cap) (hm : cap ≤ maxLen) (hs : rest.length + 4 = cap * 2) :
    W.ownsRow lo 36 2 (.slice (some ⟨b, 0, none⟩) 2 cap) 2 [a0, a1, a2, a3] :=
  ⟨by simp, .inr ⟨b, cap, _, rfl, hlo, h, h2, hm, by simp; omega, by simp⟩⟩

/-- Two records' cells, the greater generation first. -/
def sortC (g0 g1 : Nat) (u0 u1 : Value) : List Value := if g0 < g1 then [.int .u32 (g1 : Int), u1, .int .u32 (g0 : Int), u0] else [.int .u32 (g0 : Int), u0, .int .u32 (g1 : Int), u1]
theorem cells4_of {w : World} {b : Nat} {a0 a1 a2 a3 : Value} {rest : List Value} {t : TypeId} {fr : Nat × Nat} (h : w.heap[b]? = some (.cells (a0 :: a1 :: a2 :: a3 :: rest).toArray t fr)) :
    w.cell? ⟨b, 0, none⟩ = some a0 ∧ w.cell? ⟨b, 1, none⟩ = some a1 ∧ w.cell? ⟨b, 2, none⟩ = some a2 ∧ w.cell? ⟨b, 3, none⟩ = some a3 :=
  ⟨(cell_of_row _ _ _ _ _ _ h).trans rfl, (cell_of_row _ _ _ _ _ _ h).trans rfl, (cell_of_row _ _ _ _ _ _ h).trans rfl, (cell_of_row _ _ _ _ _ _ h).trans rfl⟩

theorem grown_trans {a b c : World} {r : Option Nat} (h : a.grownBy b r) (k : b.grownBy c r) : a.grownBy c r :=
  ⟨k.os.trans h.os, k.tape.trans h.tape, k.output.trans h.output, Nat.le_trans h.size k.size, fun i hi hne => (k.block i (Nat.lt_of_lt_of_le hi h.size) hne).trans (h.block i hi hne)⟩
theorem grown_drew {a b : World} {r : Option Nat} (h : a.grownBy b r) : a.grownBy b.drew r := ⟨h.os, h.tape, h.output, h.size, h.block⟩
theorem swap4 {w : World} {b : Nat} {a0 a1 a2 a3 : Value} {rest : List Value} {t : TypeId} (h : w.heap[b]? = some (.cells (a0 :: a1 :: a2 :: a3 :: rest).toArray t (0, 0))) (x0 x1 x2 x3 : Value) :
    w.grownBy ((((w.setCell ⟨b, 2, none⟩ x2).setCell ⟨b, 3, none⟩ x3).setCell ⟨b, 0, none⟩ x0).setCell ⟨b, 1, none⟩ x1) (some b) ∧
    ((((w.setCell ⟨b, 2, none⟩ x2).setCell ⟨b, 3, none⟩ x3).setCell ⟨b, 0, none⟩ x0).setCell ⟨b, 1, none⟩ x1).heap[b]? = some (.cells (x0 :: x1 :: x2 :: x3 :: rest).toArray t (0, 0)) := by
  refine ⟨grown_trans (grown_trans (grown_trans (grown_set _ b 2 _) (grown_set _ b 3 _)) (grown_set _ b 0 _)) (grown_set _ b 1 _), ?_⟩
  have h1 := heap_setCell_same w b 2 _ _ x2 h
  have h2 := heap_setCell_same _ b 3 _ _ x3 h1
  have h3 := heap_setCell_same _ b 0 _ _ x0 h2
  have h4 := heap_setCell_same _ b 1 _ _ x1 h3
  rw [h4]
  simp

set_option maxHeartbeats 4000000 in
theorem insert2_any (b cap g0 g1 n0 n1 c0 c1 : Nat) (A0 A1 : Option Addr) (rest : List Value) (w : World) (hcap : 2 ≤ cap)
    (h : w.heap[b]? = some (.cells (.int .u32 (g0 : Int) :: .slice A0 n0 c0 :: .int .u32 (g1 : Int) :: .slice A1 n1 c1 :: rest).toArray 36 (0, 0))) :
    Calls Try.prog 75 #[.slice (some ⟨b, 0, none⟩) 2 cap, .int .i64 0, .int .i64 2, .func (.func 34) #[] #[]] w fun e w' => (∃ x, e = .returned x) ∧ w.grownBy w' (some b) ∧
      w'.heap[b]? = some (.cells (sortC g0 g1 (.slice A0 n0 c0) (.slice A1 n1 c1) ++ rest).toArray 36 (0, 0)) := by
  have H := Lib.hid h
  clear h
  go_enter Try.func75, Try.ntmps75
  go_wp2_with fail
  go_loopw [8] (fun s8 wr => (s8 = .int .i64 1 ∧ wr = w) ∨ (s8 = .int .i64 2 ∧ w.grownBy wr (some b) ∧ wr.heap[b]? = some (.cells (sortC g0 g1 (.slice A0 n0 c0) (.slice A1 n1 c1) ++ rest).toArray 36 (0, 0)))) (fun s8 _ => 2 - (intOf s8).toNat)
  case atStart => exact .inl ⟨rfl, rfl⟩
  case round =>
    rcases hrel with ⟨rfl, hw⟩ | ⟨rfl, hg, hh⟩
    · subst hw
      rename World => w1
      go_wp2_with fail
      go_loopw [9] (fun s9 wq => (s9 = .int .i64 1 ∧ wq = w1) ∨ (s9 = .int .i64 0 ∧ g0 < g1 ∧ w1.grownBy wq (some b) ∧ wq.heap[b]? = some (.cells (sortC g0 g1 (.slice A0 n0 c0) (.slice A1 n1 c1) ++ rest).toArray 36 (0, 0)))) (fun s9 _ => (intOf s9).toNat)
      case atStart => exact .inl ⟨rfl, rfl⟩
      case round =>
        rcases hrel with ⟨rfl, hw⟩ | ⟨rfl, hlt, hg, hh⟩
        · subst hw
          rename World => wq
          go_wp2_with fail
          have hw0 : IntKind.i64.wrap 0 = 0 := by decide
          refine wp_region_held_drew (S := fun w' => Below wq.heap.size wq.drew w') (by kernel_rfl) (Below.refl _ _) (fun hHeld => ?_)
          refine wpAnyH_take (i := 0) (v := ?_) rfl (by kernel_rfl) (by kernel_rfl) (by kernel_rfl) (fun _ _ _ h => h) (Or.inl ⟨by rfl, ?_⟩) hHeld ?_
          rotate_left
          · intro w' hSw; go_simp; try with_reducible rfl
          simp only [List.getElem_toArray, List.getElem_cons_succ, List.getElem_cons_zero, Act.put, List.setIfInBounds_toArray, List.set_cons_zero, List.set_cons_succ]
          refine wpAnyH_take (i := 1) (v := ?_) rfl (by kernel_rfl) (by kernel_rfl) (by kernel_rfl) (fun _ _ _ h => h) (Or.inl ⟨by rfl, ?_⟩) hHeld ?_
          rotate_left
          · intro w' hSw; go_simp; try with_reducible rfl
          simp only [List.getElem_toArray, List.getElem_cons_succ, List.getElem_cons_zero, Act.put, List.setIfInBounds_toArray, List.set_cons_zero, List.set_cons_succ]
          refine wpAnyH_take (i := 2) (v := ?_) rfl (by kernel_rfl) (by kernel_rfl) (by kernel_rfl) (fun _ _ _ h => h) (Or.inl ⟨by rfl, ?_⟩) hHeld ?_
          rotate_left
          · intro w' hSw; go_simp; try with_reducible rfl
          simp only [List.getElem_toArray, List.getElem_cons_succ, List.getElem_cons_zero, Act.put, List.setIfInBounds_toArray, List.set_cons_zero, List.set_cons_succ]
          refine wpAnyH_take (i := 3) (v := ?_) rfl (by kernel_rfl) (by kernel_rfl) (by kernel_rfl) (fun _ _ _ h => h) (Or.inl ⟨by rfl, ?_⟩) hHeld ?_
          rotate_left
          · intro w' hSw; go_simp; try with_reducible rfl
          simp only [List.getElem_toArray, List.getElem_cons_succ, List.getElem_cons_zero, Act.put, List.setIfInBounds_toArray, List.set_cons_zero, List.set_cons_succ]
          refine wpAnyH_take (i := 4) (v := ?_) rfl (by kernel_rfl) (by kernel_rfl) (by kernel_rfl) (fun _ _ _ h => h) (Or.inl ⟨by rfl, ?_⟩) hHeld ?_
          rotate_left
          · intro w' hSw; go_simp; try with_reducible rfl
          simp only [List.getElem_toArray, List.getElem_cons_succ, List.getElem_cons_zero, Act.put, List.setIfInBounds_toArray, List.set_cons_zero, List.set_cons_succ]
          refine wpAnyH_take (i := 5) (v := ?_) rfl (by kernel_rfl) (by kernel_rfl) (by kernel_rfl) (fun _ _ _ h => h) (Or.inl ⟨by rfl, ?_⟩) hHeld ?_
          rotate_left
          · intro w' hSw; go_simp; try with_reducible rfl
          simp only [List.getElem_toArray, List.getElem_cons_succ, List.getElem_cons_zero, Act.put, List.setIfInBounds_toArray, List.set_cons_zero, List.set_cons_succ]
          refine wpAnyH_take (i := 6) (v := ?_) rfl (by kernel_rfl) (by kernel_rfl) (by kernel_rfl) (fun _ _ _ h => h) (Or.inl ⟨by rfl, ?_⟩) hHeld ?_
          rotate_left
          · intro w' hSw; go_simp; try with_reducible rfl
          simp only [List.getElem_toArray, List.getElem_cons_succ, List.getElem_cons_zero, Act.put, List.setIfInBounds_toArray, List.set_cons_zero, List.set_cons_succ]
          refine wpAnyH_take (i := 7) (v := ?_) rfl (by kernel_rfl) (by kernel_rfl) (by kernel_rfl) (fun _ _ _ h => h) (Or.inl ⟨by rfl, ?_⟩) hHeld ?_
          rotate_left
          · intro w' hSw; go_simp; try with_reducible rfl
          simp only [List.getElem_toArray, List.getElem_cons_succ, List.getElem_cons_zero, Act.put, List.setIfInBounds_toArray, List.set_cons_zero, List.set_cons_succ]
          refine wpAnyH_take (i := 8) (v := ?_) rfl (by kernel_rfl) (by kernel_rfl) (by kernel_rfl) (fun _ _ _ h => h) (Or.inl ⟨by rfl, ?_⟩) hHeld ?_
          rotate_left
          · intro w' hSw; obtain ⟨d0, d1, d2, d3⟩ := cells4_of (((show Below wq.heap.size wq.drew w' from hSw).block b (heap_lt H.out)).trans H.out); go_simp; try with_reducible rfl
          simp only [List.getElem_toArray, List.getElem_cons_succ, List.getElem_cons_zero, Act.put, List.setIfInBounds_toArray, List.set_cons_zero, List.set_cons_succ]
          refine wpAnyH_take (i := 9) (v := ?_) rfl (by kernel_rfl) (by kernel_rfl) (by kernel_rfl) (fun _ _ _ h => h) (Or.inl ⟨by rfl, ?_⟩) hHeld ?_
          rotate_left
          · intro w' hSw; go_simp; try with_reducible rfl
          simp only [List.getElem_toArray, List.getElem_cons_succ, List.getElem_cons_zero, Act.put, List.setIfInBounds_toArray, List.set_cons_zero, List.set_cons_succ]
          refine wpAnyH_take (i := 10) (v := ?_) rfl (by kernel_rfl) (by kernel_rfl) (by kernel_rfl) (fun _ _ _ h => h) (Or.inl ⟨by rfl, ?_⟩) hHeld ?_
          rotate_left
          · intro w' hSw; go_simp; try with_reducible rfl
          simp only [List.getElem_toArray, List.getElem_cons_succ, List.getElem_cons_zero, Act.put, List.setIfInBounds_toArray, List.set_cons_zero, List.set_cons_succ]
          refine wpAnyH_take (i := 11) (v := ?_) rfl (by kernel_rfl) (by kernel_rfl) (by kernel_rfl) (fun _ _ _ h => h) (Or.inl ⟨by rfl, ?_⟩) hHeld ?_
          rotate_left
          · intro w' hSw; go_simp; try with_reducible rfl
          simp only [List.getElem_toArray, List.getElem_cons_succ, List.getElem_cons_zero, Act.put, List.setIfInBounds_toArray, List.set_cons_zero, List.set_cons_succ]
          refine wpAnyH_take (i := 12) (v := ?_) rfl (by kernel_rfl) (by kernel_rfl) (by kernel_rfl) (fun _ _ _ h => h) (Or.inl ⟨by rfl, ?_⟩) hHeld ?_
          rotate_left
          · intro w' hSw; go_simp; try with_reducible rfl
          simp only [List.getElem_toArray, List.getElem_cons_succ, List.getElem_cons_zero, Act.put, List.setIfInBounds_toArray, List.set_cons_zero, List.set_cons_succ]
          refine wpAnyH_take (i := 13) (v := ?_) rfl (by kernel_rfl) (by kernel_rfl) (by kernel_rfl) (fun _ _ _ h => h) (Or.inl ⟨by rfl, ?_⟩) hHeld ?_
          rotate_left
          · intro w' hSw; obtain ⟨d0, d1, d2, d3⟩ := cells4_of (((show Below wq.heap.size wq.drew w' from hSw).block b (heap_lt H.out)).trans H.out); go_simp; try with_reducible rfl
          simp only [List.getElem_toArray, List.getElem_cons_succ, List.getElem_cons_zero, Act.put, List.setIfInBounds_toArray, List.set_cons_zero, List.set_cons_succ]
          refine wpAnyH_ready (rs := [14]) (by kernel_rfl) (by simp) ?_
          refine AllReadyH.cons rfl (fun K hK => ?_) AllReadyH.nil
          go_simp
          refine (fcmp_any g1 g0 A1 A0 n1 n0 c1 c0 wq.drew).mono ?_
          rintro e wA ⟨rfl, bA⟩
          have BA : Hid (Below wq.heap.size wq.drew wA) := Lib.hid bA
          clear bA
          try go_wp2_with fail
          refine hK.out _ _ ?_ (fun hHeld => ?_)
          · exact BA.out
          clear hK K
          try simp only [List.getElem_toArray, List.getElem_cons_succ, List.getElem_cons_zero, Act.put, List.setIfInBounds_toArray, List.set_cons_zero, List.set_cons_succ]
          refine wpAnyH_take (i := 15) (v := ?_) rfl (by kernel_rfl) (by kernel_rfl) (by kernel_rfl) (fun _ _ _ h => h) (Or.inl ⟨by rfl, ?_⟩) hHeld ?_
          rotate_left
          · intro w' hSw; go_simp; try with_reducible rfl
          simp only [List.getElem_toArray, List.getElem_cons_succ, List.getElem_cons_zero, Act.put, List.setIfInBounds_toArray, List.set_cons_zero, List.set_cons_succ]
          refine wpAnyH_take (i := 16) (v := ?_) rfl (by kernel_rfl) (by kernel_rfl) (by kernel_rfl) (fun _ _ _ h => h) (Or.inl ⟨by rfl, ?_⟩) hHeld ?_
          rotate_left
          · intro w' hSw; go_simp; try with_reducible rfl
          simp only [List.getElem_toArray, List.getElem_cons_succ, List.getElem_cons_zero, Act.put, List.setIfInBounds_toArray, List.set_cons_zero, List.set_cons_succ]
          refine wpAnyH_done (by kernel_rfl) ?_ _
          have hA := (BA.out.block b (heap_lt H.out)).trans H.out
          have HA := Lib.hid hA
          have GA : Hid (wq.grownBy wA (some b)) := Lib.hid ⟨BA.out.os, BA.out.tape, BA.out.output, BA.out.size, fun i hi _ => BA.out.block i hi⟩
          by_cases hlt : g0 < g1
          · have hd : decide (cmpI g0 g1 < 0) = true := decide_eq_true (by rw [cmpI, if_pos hlt]; omega)
            rw [hd]
            have hz1 : wA.heap[b]? = _ := hA
            obtain ⟨d0, d1, d2, d3⟩ := cells4_of hz1
            have f0 := frozen_of_row _ b 0 _ _ hz1
            have f1 := frozen_of_row _ b 1 _ _ hz1
            have f2 := frozen_of_row _ b 2 _ _ hz1
            have f3 := frozen_of_row _ b 3 _ _ hz1
            clear hA hz1 hHeld hd
            go_wp2_with fail
            go_region
            obtain ⟨sg, sh⟩ := swap4 HA.out (.int .u32 (g1 : Int)) (.slice A1 n1 c1) (.int .u32 (g0 : Int)) (.slice A0 n0 c0)
            have SG := Lib.hid (grown_trans GA.out sg)
            have SH := Lib.hid sh
            clear sg sh d0 d1 d2 d3 f0 f1 f2 f3
            generalize (((wA.setCell ⟨b, 2, none⟩ (.int .u32 (g0 : Int))).setCell ⟨b, 3, none⟩ (.slice A0 n0 c0)).setCell ⟨b, 0, none⟩ (.int .u32 (g1 : Int))).setCell ⟨b, 1, none⟩ (.slice A1 n1 c1) = wS at SG SH ⊢
            go_wp2_with fail
            go_roundw
            case measure => simp [intOf]
            case rel => exact .inr ⟨by go_num, hlt, grown_drew SG.out, by rw [sortC, if_pos hlt]; exact SH.out⟩
          · have hd : decide (cmpI g0 g1 < 0) = false := decide_eq_false (by rw [cmpI, if_neg hlt]; split <;> omega)
            rw [hd]
            have hsc : (sortC g0 g1 (.slice A0 n0 c0) (.slice A1 n1 c1) ++ rest) = .int .u32 (g0 : Int) :: .slice A0 n0 c0 :: .int .u32 (g1 : Int) :: .slice A1 n1 c1 :: rest := by rw [sortC, if_neg hlt]; rfl
            have HSC := Lib.hid hsc
            clear hA hHeld hd hsc
            go_wp2_with fail
            go_roundw
            case measure => simp [intOf]
            case rel => exact .inr ⟨by go_num, GA.out, by rw [HSC.out]; exact HA.out⟩
        · rename World => wq
          have HH := Lib.hid hh
          have HG := Lib.hid hg
          clear hh hg
          go_wp2_with fail
          refine wp_region_held_drew (S := fun w' => True) (by kernel_rfl) trivial (fun hHeld => ?_)
          refine wpAnyH_take (i := 0) (v := ?_) rfl (by kernel_rfl) (by kernel_rfl) (by kernel_rfl) (fun _ _ _ h => h) (Or.inl ⟨by rfl, ?_⟩) hHeld ?_
          rotate_left
          · intro w' hSw; go_simp; try with_reducible rfl
          simp only [List.getElem_toArray, List.getElem_cons_succ, List.getElem_cons_zero, Act.put, List.setIfInBounds_toArray, List.set_cons_zero, List.set_cons_succ]
          refine wpAnyH_take (i := 1) (v := ?_) rfl (by kernel_rfl) (by kernel_rfl) (by kernel_rfl) (fun _ _ _ h => h) (Or.inl ⟨by rfl, ?_⟩) hHeld ?_
          rotate_left
          · intro w' hSw; go_simp; try with_reducible rfl
          simp only [List.getElem_toArray, List.getElem_cons_succ, List.getElem_cons_zero, Act.put, List.setIfInBounds_toArray, List.set_cons_zero, List.set_cons_succ]
          refine wpAnyH_take (i := 2) (v := ?_) rfl (by kernel_rfl) (by kernel_rfl) (by kernel_rfl) (fun _ _ _ h => h) (Or.inl ⟨by rfl, ?_⟩) hHeld ?_
          rotate_left
          · intro w' hSw; go_simp; try with_reducible rfl
          simp only [List.getElem_toArray, List.getElem_cons_succ, List.getElem_cons_zero, Act.put, List.setIfInBounds_toArray, List.set_cons_zero, List.set_cons_succ]
          refine wpAnyH_take (i := 3) (v := ?_) rfl (by kernel_rfl) (by kernel_rfl) (by kernel_rfl) (fun _ _ _ h => h) (Or.inl ⟨by rfl, ?_⟩) hHeld ?_
          rotate_left
          · intro w' hSw; go_simp; try with_reducible rfl
          simp only [List.getElem_toArray, List.getElem_cons_succ, List.getElem_cons_zero, Act.put, List.setIfInBounds_toArray, List.set_cons_zero, List.set_cons_succ]
          refine wpAnyH_take (i := 4) (v := undef) rfl (by kernel_rfl) (by kernel_rfl) (by kernel_rfl) (fun _ _ _ h => h) (Or.inr ⟨by rfl, rfl⟩) hHeld ?_
          simp only [List.getElem_toArray, List.getElem_cons_succ, List.getElem_cons_zero, Act.put, List.setIfInBounds_toArray, List.set_cons_zero, List.set_cons_succ]
          refine wpAnyH_take (i := 5) (v := undef) rfl (by kernel_rfl) (by kernel_rfl) (by kernel_rfl) (fun _ _ _ h => h) (Or.inr ⟨by rfl, rfl⟩) hHeld ?_
          simp only [List.getElem_toArray, List.getElem_cons_succ, List.getElem_cons_zero, Act.put, List.setIfInBounds_toArray, List.set_cons_zero, List.set_cons_succ]
          refine wpAnyH_take (i := 6) (v := undef) rfl (by kernel_rfl) (by kernel_rfl) (by kernel_rfl) (fun _ _ _ h => h) (Or.inr ⟨by rfl, rfl⟩) hHeld ?_
          simp only [List.getElem_toArray, List.getElem_cons_succ, List.getElem_cons_zero, Act.put, List.setIfInBounds_toArray, List.set_cons_zero, List.set_cons_succ]
          refine wpAnyH_take (i := 7) (v := undef) rfl (by kernel_rfl) (by kernel_rfl) (by kernel_rfl) (fun _ _ _ h => h) (Or.inr ⟨by rfl, rfl⟩) hHeld ?_
          simp only [List.getElem_toArray, List.getElem_cons_succ, List.getElem_cons_zero, Act.put, List.setIfInBounds_toArray, List.set_cons_zero, List.set_cons_succ]
          refine wpAnyH_take (i := 8) (v := undef) rfl (by kernel_rfl) (by kernel_rfl) (by kernel_rfl) (fun _ _ _ h => h) (Or.inr ⟨by rfl, rfl⟩) hHeld ?_
          simp only [List.getElem_toArray, List.getElem_cons_succ, List.getElem_cons_zero, Act.put, List.setIfInBounds_toArray, List.set_cons_zero, List.set_cons_succ]
          refine wpAnyH_take (i := 9) (v := undef) rfl (by kernel_rfl) (by kernel_rfl) (by kernel_rfl) (fun _ _ _ h => h) (Or.inr ⟨by rfl, rfl⟩) hHeld ?_
          simp only [List.getElem_toArray, List.getElem_cons_succ, List.getElem_cons_zero, Act.put, List.setIfInBounds_toArray, List.set_cons_zero, List.set_cons_succ]
          refine wpAnyH_take (i := 10) (v := undef) rfl (by kernel_rfl) (by kernel_rfl) (by kernel_rfl) (fun _ _ _ h => h) (Or.inr ⟨by rfl, rfl⟩) hHeld ?_
          simp only [List.getElem_toArray, List.getElem_cons_succ, List.getElem_cons_zero, Act.put, List.setIfInBounds_toArray, List.set_cons_zero, List.set_cons_succ]
          refine wpAnyH_take (i := 11) (v := undef) rfl (by kernel_rfl) (by kernel_rfl) (by kernel_rfl) (fun _ _ _ h => h) (Or.inr ⟨by rfl, rfl⟩) hHeld ?_
          simp only [List.getElem_toArray, List.getElem_cons_succ, List.getElem_cons_zero, Act.put, List.setIfInBounds_toArray, List.set_cons_zero, List.set_cons_succ]
          refine wpAnyH_take (i := 12) (v := undef) rfl (by kernel_rfl) (by kernel_rfl) (by kernel_rfl) (fun _ _ _ h => h) (Or.inr ⟨by rfl, rfl⟩) hHeld ?_
          simp only [List.getElem_toArray, List.getElem_cons_succ, List.getElem_cons_zero, Act.put, List.setIfInBounds_toArray, List.set_cons_zero, List.set_cons_succ]
          refine wpAnyH_take (i := 13) (v := undef) rfl (by kernel_rfl) (by kernel_rfl) (by kernel_rfl) (fun _ _ _ h => h) (Or.inr ⟨by rfl, rfl⟩) hHeld ?_
          simp only [List.getElem_toArray, List.getElem_cons_succ, List.getElem_cons_zero, Act.put, List.setIfInBounds_toArray, List.set_cons_zero, List.set_cons_succ]
          refine wpAnyH_take (i := 14) (v := undef) rfl (by kernel_rfl) (by kernel_rfl) (by kernel_rfl) (fun _ _ _ h => h) (Or.inr ⟨by rfl, rfl⟩) hHeld ?_
          simp only [List.getElem_toArray, List.getElem_cons_succ, List.getElem_cons_zero, Act.put, List.setIfInBounds_toArray, List.set_cons_zero, List.set_cons_succ]
          refine wpAnyH_take (i := 15) (v := undef) rfl (by kernel_rfl) (by kernel_rfl) (by kernel_rfl) (fun _ _ _ h => h) (Or.inr ⟨by rfl, rfl⟩) hHeld ?_
          simp only [List.getElem_toArray, List.getElem_cons_succ, List.getElem_cons_zero, Act.put, List.setIfInBounds_toArray, List.set_cons_zero, List.set_cons_succ]
          refine wpAnyH_take (i := 16) (v := ?_) rfl (by kernel_rfl) (by kernel_rfl) (by kernel_rfl) (fun _ _ _ h => h) (Or.inl ⟨by rfl, ?_⟩) hHeld ?_
          rotate_left
          · intro w' hSw; go_simp; try with_reducible rfl
          simp only [List.getElem_toArray, List.getElem_cons_succ, List.getElem_cons_zero, Act.put, List.setIfInBounds_toArray, List.set_cons_zero, List.set_cons_succ]
          refine wpAnyH_done (by kernel_rfl) ?_ _
          go_wp2_with fail
          go_roundw
          case measure => simp [intOf]
          case rel => exact .inr ⟨by go_num, grown_drew HG.out, HH.out⟩
    · go_wp2_with fail
      go_end0
      exact ⟨⟨_, rfl⟩, hg, hh⟩

theorem insert1_any (A : Option Addr) (n cap : Nat) (hn : n ≤ 1) (w : World) :
    Calls Try.prog 75 #[.slice A n cap, .int .i64 0, .int .i64 n, .func (.func 34) #[] #[]] w fun e w' => (∃ x, e = .returned x) ∧ w = w' := by
  have h : ¬ (1 : Int) < n := by omega
  go_enter Try.func75, Try.ntmps75
  go_wp2_with fail
  go_loopw [8] (fun s8 wr => s8 = .int .i64 1 ∧ wr = w) (fun s8 _ => 0)
  case atStart => exact ⟨rfl, rfl⟩
  case round =>
    obtain ⟨rfl, hw⟩ := hrel
    subst hw
    go_wp2_with fail
    go_end0
    exact ⟨⟨_, rfl⟩, rfl⟩

/-- What the sort of one or no record, or of two, leaves. -/
theorem pdq1_any (A : Option Addr) (n cap : Nat) (hn : n ≤ 1) (k : Int) (w : World) :
    Calls Try.prog 56 #[.slice A n cap, .int .i64 0, .int .i64 n, .int .i64 k, .func (.func 34) #[] #[]] w fun e w' => (∃ x, e = .returned x) ∧ w = w' := by
  have h : (n : Int) ≤ 12 := by omega
  go_enter Try.func56, Try.ntmps56
  go_wp2_with fail
  go_loopw [1, 2] (fun s1 s2 wr => s1 = .int .i64 0 ∧ s2 = .int .i64 n ∧ wr = w) (fun _ _ _ => 0)
  case atStart => exact ⟨rfl, rfl, rfl⟩
  case round =>
    obtain ⟨rfl, rfl, hw⟩ := hrel
    subst hw
    go_wp2_with (refine (insert1_any A n cap hn _).mono ?_; rintro e w' ⟨⟨x, rfl⟩, rfl⟩)
    refine bodyPost_ret (results_none rfl _ _ _) rfl ?_
    exact ⟨⟨_, rfl⟩, rfl⟩
theorem sort1_any (A : Option Addr) (n cap : Nat) (hn : n ≤ 1) (w : World) :
    Calls Try.prog 33 #[.slice A n cap, .func (.func 34) #[] #[]] w fun e w' => (∃ x, e = .returned x) ∧ w = w' := by
  go_enter Try.func33, Try.ntmps33
  go_wp2_with (first | (refine (bits_len n (by omega) _).mono ?_; rintro e w' ⟨⟨k, rfl⟩, rfl⟩) | (refine (pdq1_any A n cap hn _ _).mono ?_; rintro e w' ⟨⟨x, rfl⟩, rfl⟩))
  go_end0
  exact ⟨⟨_, rfl⟩, rfl⟩
theorem pdq2_any (b cap g0 g1 n0 n1 c0 c1 : Nat) (A0 A1 : Option Addr) (rest : List Value) (k : Int) (w : World) (hcap : 2 ≤ cap)
    (h : w.heap[b]? = some (.cells (.int .u32 (g0 : Int) :: .slice A0 n0 c0 :: .int .u32 (g1 : Int) :: .slice A1 n1 c1 :: rest).toArray 36 (0, 0))) :
    Calls Try.prog 56 #[.slice (some ⟨b, 0, none⟩) 2 cap, .int .i64 0, .int .i64 2, .int .i64 k, .func (.func 34) #[] #[]] w fun e w' => (∃ x, e = .returned x) ∧ w.grownBy w' (some b) ∧
      w'.heap[b]? = some (.cells (sortC g0 g1 (.slice A0 n0 c0) (.slice A1 n1 c1) ++ rest).toArray 36 (0, 0)) := by
  have H := Lib.hid h
  clear h
  go_enter Try.func56, Try.ntmps56
  go_wp2_with fail
  go_loopw [1, 2] (fun s1 s2 wr => s1 = .int .i64 0 ∧ s2 = .int .i64 2 ∧ wr = w) (fun _ _ _ => 0)
  case atStart => exact ⟨rfl, rfl, rfl⟩
  case round =>
    obtain ⟨rfl, rfl, hw⟩ := hrel
    subst hw
    go_wp2_with fail
    refine (insert2_any b cap g0 g1 n0 n1 c0 c1 A0 A1 rest _ hcap H.out).mono ?_
    rintro e w1 ⟨⟨x, rfl⟩, hg, hh⟩
    have HG := Lib.hid hg
    have HH := Lib.hid hh
    clear hg hh
    go_wp2_with fail
    refine bodyPost_ret (results_none rfl _ _ _) rfl ?_
    exact ⟨⟨_, rfl⟩, HG.out, HH.out⟩
theorem sort2_any (b cap g0 g1 n0 n1 c0 c1 : Nat) (A0 A1 : Option Addr) (rest : List Value) (w : World) (hcap : 2 ≤ cap)
    (h : w.heap[b]? = some (.cells (.int .u32 (g0 : Int) :: .slice A0 n0 c0 :: .int .u32 (g1 : Int) :: .slice A1 n1 c1 :: rest).toArray 36 (0, 0))) :
    Calls Try.prog 33 #[.slice (some ⟨b, 0, none⟩) 2 cap, .func (.func 34) #[] #[]] w fun e w' => (∃ x, e = .returned x) ∧ w.grownBy w' (some b) ∧
      w'.heap[b]? = some (.cells (sortC g0 g1 (.slice A0 n0 c0) (.slice A1 n1 c1) ++ rest).toArray 36 (0, 0)) := by
  have H := Lib.hid h
  clear h
  go_enter Try.func33, Try.ntmps33
  go_wp2_with (refine (bits_len 2 (by omega) _).mono ?_; rintro e w' ⟨⟨k, rfl⟩, rfl⟩)
  refine (pdq2_any b cap g0 g1 n0 n1 c0 c1 A0 A1 rest k _ hcap H.out).mono ?_
  rintro e w1 ⟨⟨x, rfl⟩, hg, hh⟩
  have HG := Lib.hid hg
  have HH := Lib.hid hh
  clear hg hh
  go_wp2_with fail
  go_end0
  exact ⟨⟨_, rfl⟩, HG.out, HH.out⟩
end Go.Proofs.Ytdjoflhcagfmiaa

/-
  The records that are whole on a disk, as the program finds them.
  Conditions: none.
-/
set_option linter.unusedVariables false
set_option linter.unusedSimpArgs false
set_option maxRecDepth 100000
namespace Go.Proofs.Ytdjoflhcagfmiaa
open Go.RowKit

/-- A record: its generation, and its text. -/
abbrev Rc := Nat × Bs
def rcells (rs : List Rc) (us : List Value) : List Value := (List.zipWith (fun (r : Rc) u => [Value.int .u32 (r.1 : Int), u]) rs us).flatten
theorem rcells_snoc : ∀ (rs : List Rc) (us : List Value) (r : Rc) (u : Value), us.length = rs.length → rcells (rs ++ [r]) (us ++ [u]) = rcells rs us ++ [.int .u32 (r.1 : Int), u]
  | [], [], r, u, _ => rfl
  | r0 :: rs, u0 :: us, r, u, h => by
    have := rcells_snoc rs us r u (by simpa using h)
    show Value.int .u32 (r0.1 : Int) :: u0 :: rcells (rs ++ [r]) (us ++ [u]) = Value.int .u32 (r0.1 : Int) :: u0 :: (rcells rs us ++ _)
    rw [this]
/-- A list of records in memory of the call's own. -/
def RecsAt (W : World) (lo : Nat) (v : Value) (rs : List Rc) : Prop :=
  ∃ us : List Value, W.ownsRow lo 36 2 v rs.length (rcells rs us) ∧ us.length = rs.length ∧ rs.length ≤ maxLen ∧ ∀ (j : Nat) (u : Value) (r : Rc), us[j]? = some u → rs[j]? = some r → OwnTxt W lo u r.2
theorem RecsAt.nil_ (W : World) (lo : Nat) : RecsAt W lo (.slice none 0 0) [] := ⟨[], World.ownsRow_nil _ _ _ _, rfl, by simp, fun j u r h => by simp at h⟩
theorem RecsAt.below {W W' : World} {lo : Nat} {v : Value} {rs : List Rc} (h : RecsAt W lo v rs) (hb : Below W.heap.size W W') : RecsAt W' lo v rs := by
  obtain ⟨us, ho, hl, hm, ht⟩ := h
  exact ⟨us, owns_below ho hb, hl, hm, fun j u r h1 h2 => (ht j u r h1 h2).below hb⟩
theorem RecsAt.mono {W : World} {lo lo' : Nat} {v : Value} {rs : List Rc} (h : RecsAt W lo v rs) (hl : lo' ≤ lo) : RecsAt W lo' v rs := by
  obtain ⟨us, ho, hle, hm, ht⟩ := h
  exact ⟨us, owns_mono ho hl, hle, hm, fun j u r h1 h2 => (ht j u r h1 h2).mono hl⟩
theorem OwnTxt.grown {W W' : World} {lo b : Nat} {u : Value} {t : Bs} {e : TypeId} {c : Array Value} {fr : Nat × Nat} (h : OwnTxt W lo u t) (hne : 5 ≠ e) (hb : W.heap[b]? = some (.cells c e fr)) (hg : W.grownBy W' (some b)) : OwnTxt W' lo u t := by
  obtain ⟨b0, off, cap, cs, rfl, h0, hh, h1, h2, h3⟩ := h
  refine ⟨b0, off, cap, cs, rfl, h0, (hg.block b0 (Array.getElem?_eq_some_iff.1 hh).1 (fun e1 => ?_)).trans hh, h1, h2, h3⟩
  obtain rfl : b0 = b := by simpa using e1
  rw [hh] at hb
  cases hb
  exact hne rfl
theorem OwnTxt.kept {W W' : World} {lo base n : Nat} {u v : Value} {t : Bs} {ys : List Value} (h : OwnTxt W lo u t) (ho : W.ownsRow base 36 2 v n ys) (hg : W.grownBy W' v.ownBlock) : OwnTxt W' lo u t := by
  cases hv : v.ownBlock with
  | none =>
    rw [hv] at hg
    obtain ⟨b0, off, cap, cs, rfl, h0, hh, h1, h2, h3⟩ := h
    exact ⟨b0, off, cap, cs, rfl, h0, (hg.block b0 (Array.getElem?_eq_some_iff.1 hh).1 (by simp)).trans hh, h1, h2, h3⟩
  | some g =>
    obtain ⟨c, h1, _⟩ := owns_block ho hv
    rw [hv] at hg
    exact h.grown (by decide) h1 hg
theorem RecsAt.snoc {W w1 w5 : World} {lo : Nat} {v v5 u : Value} {rs : List Rc} {r : Rc} {us : List Value} {o : Obj} (ho : W.ownsRow lo 36 2 v rs.length (rcells rs us)) (hl : us.length = rs.length) (hm : rs.length + 1 ≤ maxLen)
    (ht : ∀ (j : Nat) (u : Value) (r : Rc), us[j]? = some u → rs[j]? = some r → OwnTxt W lo u r.2) (hb : Below W.heap.size W w1) (hu : OwnTxt w1 lo u r.2)
    (hown : w5.ownsRow lo 36 2 v5 (rs.length + 1) (rcells rs us ++ [.int .u32 (r.1 : Int), u])) (hgr : (w1.alloc o).grownBy w5 v.ownBlock) : RecsAt w5 lo v5 (rs ++ [r]) := by
  have h1 : (w1.alloc o).ownsRow lo 36 2 v rs.length (rcells rs us) := (owns_below ho hb).alloc o
  refine ⟨us ++ [u], by rw [List.length_append, List.length_singleton, rcells_snoc _ _ _ _ hl]; exact hown, by simp [hl], by simpa using hm, fun j x y hj hy => ?_⟩
  rcases Nat.lt_or_ge j rs.length with h | h
  · rw [List.getElem?_append_left (by omega)] at hj
    rw [List.getElem?_append_left h] at hy
    exact (((ht j x y hj hy).below hb).below (below_new _ _)).kept h1 hgr
  · have hj1 : j = rs.length := by
      have := (List.getElem?_eq_some_iff.1 hy).1
      rw [List.length_append, List.length_singleton] at this
      omega
    subst hj1
    rw [List.getElem?_append_right (by omega), hl, Nat.sub_self] at hj
    rw [List.getElem?_append_right (by omega), Nat.sub_self] at hy
    cases hj
    cases hy
    exact (hu.below (below_new _ _)).kept h1 hgr

/-- Of two records the greater generation first. -/
def sortL : List Rc → List Rc
  | [x, y] => if x.1 < y.1 then [y, x] else [x, y]
  | l => l
def halfL (V : List Bs) (k : Nat) : List Rc := (wholeR ((V.drop k).take 16) k).toList
def findL (V : List Bs) : List Rc := sortL (halfL V 0 ++ halfL V 16)
theorem half_step (V : List Bs) {i : Nat} (hi : i < 2) : ((if 0 < i + 1 then halfL V 0 else []) ++ (if 1 < i + 1 then halfL V 16 else [])) = ((if 0 < i then halfL V 0 else []) ++ (if 1 < i then halfL V 16 else [])) ++ halfL V (16 * i) := by
  have h : i = 0 ∨ i = 1 := by omega
  rcases h with rfl | rfl
  · simp
  · simp
def findR (ss : List Bs) (ws : List Wr) : List Rc := if mayB ss ws then findL (comes ss ws (all128 ws)) else []
theorem halfL_le (V : List Bs) (k : Nat) : (halfL V k).length ≤ 1 := by
  rw [halfL]
  cases wholeR ((V.drop k).take 16) k <;> simp
theorem RecsAt.slice {W : World} {lo : Nat} {v : Value} {rs : List Rc} (h : RecsAt W lo v rs) : ∃ A c, v = .slice A rs.length c := by
  obtain ⟨us, ho, _⟩ := h
  exact own_sliceN ho
theorem OwnTxt.slice {W : World} {lo : Nat} {u : Value} {t : Bs} (h : OwnTxt W lo u t) : ∃ A n c, u = .slice A n c := by
  obtain ⟨b, off, cap, cs, rfl, _⟩ := h
  exact ⟨_, _, _, rfl⟩

theorem two_of {α : Type} {l : List α} (h : l.length = 2) : ∃ x y, l = [x, y] := by
  match l, h with
  | [x, y], _ => exact ⟨x, y, rfl⟩
/-- The sort, at a list of at most two records. -/
theorem sort_any (v : Value) (rs : List Rc) (lo : Nat) (w : World) (h : RecsAt w lo v rs) (hl : rs.length ≤ 2) :
    Calls Try.prog 33 #[v, .func (.func 34) #[] #[]] w fun e w' => (∃ x, e = .returned x) ∧ RecsAt w' lo v (sortL rs) ∧ w.grownBy w' v.ownBlock := by
  by_cases h1 : rs.length ≤ 1
  · obtain ⟨A, c, rfl⟩ := h.slice
    refine (sort1_any A rs.length c h1 w).mono ?_
    rintro e w' ⟨⟨x, rfl⟩, rfl⟩
    refine ⟨⟨x, rfl⟩, ?_, World.grownBy.refl _ _⟩
    match rs, h1 with
    | [], _ => exact h
    | [r], _ => exact h
  · obtain ⟨r0, r1, rfl⟩ := two_of (show rs.length = 2 by omega)
    obtain ⟨us, ho, hu, hm, ht⟩ := h
    obtain ⟨u0, u1, rfl⟩ := two_of (show us.length = 2 from hu)
    have t0 := ht 0 u0 r0 rfl rfl
    have t1 := ht 1 u1 r1 rfl rfl
    obtain ⟨A0, n0, c0, rfl⟩ := t0.slice
    obtain ⟨A1, n1, c1, rfl⟩ := t1.slice
    obtain ⟨b, cap, rest, rfl, hlo, hb, hcap, hmx, hsz⟩ := row4_of (show w.ownsRow lo 36 2 v 2 [.int .u32 (r0.1 : Int), .slice A0 n0 c0, .int .u32 (r1.1 : Int), .slice A1 n1 c1] from ho)
    refine (sort2_any b cap r0.1 r1.1 n0 n1 c0 c1 A0 A1 rest w hcap hb).mono ?_
    rintro e w' ⟨⟨x, rfl⟩, hg, hh⟩
    refine ⟨⟨x, rfl⟩, ?_, hg⟩
    have k0 := t0.grown (by decide) hb hg
    have k1 := t1.grown (by decide) hb hg
    unfold sortC at hh
    by_cases hlt : r0.1 < r1.1
    · rw [if_pos hlt] at hh
      rw [sortL, if_pos hlt]
      refine ⟨[.slice A1 n1 c1, .slice A0 n0 c0], row4_to hlo hh hcap hmx hsz, rfl, hm, fun j u r hj hr => ?_⟩
      match j, hj, hr with
      | 0, hj, hr => cases hj; cases hr; exact k1
      | 1, hj, hr => cases hj; cases hr; exact k0
    · rw [if_neg hlt] at hh
      rw [sortL, if_neg hlt]
      refine ⟨[.slice A0 n0 c0, .slice A1 n1 c1], row4_to hlo hh hcap hmx hsz, rfl, hm, fun j u r hj hr => ?_⟩
      match j, hj, hr with
      | 0, hj, hr => cases hj; cases hr; exact k0
      | 1, hj, hr => cases hj; cases hr; exact k1

set_option maxHeartbeats 4000000 in
theorem sfind_any (d : Value) (ss : List Bs) (ws : List Wr) (w : World) (h : DiskIn w w.heap.size d ss ws) :
    Calls Try.prog 9 #[d] w fun e w' => ∃ v, e = .returned (.tuple #[v, .int .i64 (syncE ss ws)]) ∧ RecsAt w' w.heap.size v (findR ss ws) ∧ Below w.heap.size w w' := by
  obtain ⟨v1, v2, rfl, h1, h2⟩ := id h
  have H := Lib.hid h
  obtain ⟨i0, hi, hz0, hz1, hz2⟩ := info_parts infoRec
  have I0 := Lib.hid hi
  have I1 := Lib.hid hz0
  have I2 := Lib.hid hz1
  have I3 := Lib.hid hz2
  have qb := below_new w (.cells #[v1, v2] 29)
  have q0 := heap_alloc_self w (.cells #[v1, v2] 29)
  clear h1 h2 h hi hz0 hz1 hz2
  go_enter Try.func9, Try.ntmps9
  go_wp2_with fail
  generalize w.alloc (.cells #[v1, v2] 29) = q at q0 qb ⊢
  have QB := Lib.hid qb
  refine (sseen_any _ ss ws q ((H.out.below QB.out).more QB.out.size)).mono ?_
  rintro e w1 ⟨y1, rfl, hs, b1⟩
  obtain ⟨A2, c2, rfl⟩ := secs_slice hs
  have B1 := Lib.hid (QB.out.trans (b1.mono QB.out.size))
  have S1 := Lib.hid hs.in_
  clear hs b1 q0 qb
  cases hm : mayB ss ws with
  | false =>
    have hE : syncE ss ws = 8 := by rw [syncE, hm]; rfl
    have hF : findR ss ws = [] := by rw [findR, hm]; rfl
    rw [hE]
    have HE := Lib.hid hE
    have HF := Lib.hid hF
    clear hm hE hF
    go_wp2_with fail
    refine bodyPost_ret (results_tmp2 rfl _ _ _) rfl ?_
    exact ⟨_, by rw [HE.out]; rfl, by rw [HF.out]; exact RecsAt.nil_ _ _, B1.out⟩
  | true =>
    have hM := mayB_iff.1 hm
    have hE : syncE ss ws = 0 := by rw [syncE, hm]; rfl
    have hS : syncS ss ws = comes ss ws (all128 ws) := by rw [syncS, hm]; rfl
    have hF : findR ss ws = findL (comes ss ws (all128 ws)) := by rw [findR, hm]; rfl
    have hC := may_comes hM (all128 ws)
    obtain ⟨V, hV⟩ : ∃ V, V = comes ss ws (all128 ws) := ⟨_, rfl⟩
    rw [← hV] at hF hC hS
    rw [hE]
    rw [hS] at S1 ⊢
    rw [hC.n] at S1 ⊢
    have HE := Lib.hid hE
    have HF := Lib.hid hF
    have HC := Lib.hid hC
    clear hm hM hE hS hF hV hC
    go_wp2_with fail
    go_loopw [6, 7] (fun s6 s7 wr => ∃ (i : Nat) (l : List Rc), i ≤ 2 ∧ s7 = .int .i64 ((16 * i : Nat) : Int) ∧ l.length ≤ i ∧ l = ((if 0 < i then halfL V 0 else []) ++ (if 1 < i then halfL V 16 else [])) ∧ RecsAt wr w1.heap.size s6 l ∧ Below w1.heap.size w1 wr) (fun _ s7 _ => 32 - (intOf s7).toNat)
    case atStart => exact ⟨0, [], by omega, rfl, Nat.le_refl _, rfl, RecsAt.nil_ _ _, Below.refl _ _⟩
    case round =>
      obtain ⟨i, l, hi, rfl, hl, hle, hr, hb⟩ := hrel
      obtain ⟨A6, c6, rfl⟩ := hr.slice
      have HR := Lib.hid hr
      have HB := Lib.hid hb
      have HLE := Lib.hid hle
      clear hr hb hle
      by_cases hlt : i < 2
      · have hlt' : ((16 * i : Nat) : Int) < 32 := by omega
        go_wp2_with fail
        refine (swhole_any _ V (16 * i) (by omega) wr ((S1.out.below HB.out).more HB.out.size) HC.out.n HC.out.s).mono ?_
        rintro e w2 ⟨hsaid, b2⟩
        have hstep := half_step V hlt
        cases hT : wholeR ((V.drop (16 * i)).take 16) (16 * i) with
        | none =>
          rw [hT] at hsaid
          obtain rfl : e = _ := hsaid
          have hn : halfL V (16 * i) = [] := by rw [halfL, hT]; rfl
          rw [hn, List.append_nil, ← HLE.out] at hstep
          have HST := Lib.hid hstep
          have B2 := Lib.hid (HB.out.trans (b2.mono HB.out.size))
          have R2 := Lib.hid (HR.out.below b2)
          clear hT hn hstep b2
          go_wp2_with fail
          go_roundw
          case measure => simp [intOf]; omega
          case rel => exact ⟨i + 1, l, by omega, by go_num, by omega, HST.out.symm, R2.out.below (below_new _ _), B2.out.alloc B2.out.size _⟩
        | some r =>
          obtain ⟨g, t⟩ := r
          rw [hT] at hsaid
          obtain ⟨u, rfl, ho⟩ := hsaid
          have hn : halfL V (16 * i) = [(g, t)] := by rw [halfL, hT]; rfl
          rw [hn, ← HLE.out] at hstep
          have HST := Lib.hid hstep
          have B2 := Lib.hid (HB.out.trans (b2.mono HB.out.size))
          have LB := Lib.hid HB.out.size
          have OT := Lib.hid (ho.mono HB.out.size)
          have BB := Lib.hid b2
          obtain ⟨A8, n8, c8, rfl⟩ := ho.slice
          clear hT hn hstep ho
          have hz := heap_alloc_self w2 (.cells #[.int .u32 (g : Int), .slice A8 n8 c8] 36)
          have hzb := below_new w2 (.cells #[.int .u32 (g : Int), .slice A8 n8 c8] 36)
          have hc8 := heap_alloc_self (w2.alloc (.cells #[.int .u32 (g : Int), .slice A8 n8 c8] 36)) (.cells #[.int .u32 (g : Int), .slice A8 n8 c8] 36)
          rw [heap_alloc_size] at hc8
          have HC8 := Lib.hid hc8
          clear hc8
          have R3 := HR.out
          obtain ⟨us, h1, h2, h3, h4⟩ := R3
          have U1 := Lib.hid h1
          have U2 := Lib.hid h2
          have U4 := Lib.hid h4
          clear h1 h2 h3 h4 b2
          go_wp2_with ((with_reducible show wpList _ _ _ (⟨some 32, _, _, _, _, _⟩ :: _) _ _); refine wpList_append_any rfl (.tmp 29) (.tmp 31) _ rfl Try.underlying22 I0.out I1.out rfl I2.out (by decide) I3.out (by decide) rfl (owns_below (owns_below U1.out BB.out) ((below_new w2 _).alloc (by simp) _)) (m := 1) rfl (news := [.int .u32 (g : Int), .slice A8 n8 c8]) rfl (fun j u hj => (cell_of_row _ _ j _ _ _ HC8.out).trans (by simpa using hj)) (by simp [Value.oneCell']) (by omega) (by have := LB.out; have := BB.out.size; simp; omega) ?_; intro v4 w4 hown4 hgrow4; obtain ⟨A4, c4, rfl⟩ := own_sliceN hown4)
          have hs := RecsAt.snoc (rs := l) (r := (g, t)) U1.out U2.out (by unfold maxLen; omega) U4.out (BB.out.alloc BB.out.size _) (OT.out.below (below_new _ _)) hown4 hgrow4
          have RS := Lib.hid hs
          have BS : Hid (Below w1.heap.size w1 w4) := Lib.hid (((B2.out.alloc B2.out.size _).alloc (by have := B2.out.size; simp; omega) _).grown hgrow4 (by have := B2.out.size; simp; omega) (fun k hk => own_ge U1.out k hk))
          clear hs hown4 hgrow4 hz hzb
          go_roundw
          case measure => simp [intOf]; omega
          case rel => exact ⟨i + 1, l ++ [(g, t)], by omega, by go_num, by simp; omega, HST.out.symm, RS.out, BS.out⟩
      · obtain rfl : i = 2 := by omega
        have hlt' : ¬ ((16 * 2 : Nat) : Int) < 32 := by omega
        go_wp2_with fail
        refine (sort_any _ l w1.heap.size wr HR.out hl).mono ?_
        rintro e w2 ⟨⟨x, rfl⟩, hr2, hg2⟩
        have R2 := Lib.hid hr2
        have B2 : Hid (Below w1.heap.size w1 w2) := Lib.hid (HB.out.grown hg2 HB.out.size (fun k hk => by
          obtain ⟨us, ho, _⟩ := HR.out
          exact own_ge ho k hk))
        clear hr2 hg2
        go_wp2_with fail
        refine bodyPost_ret (results_tmp2 rfl _ _ _) rfl ?_
        refine ⟨_, by rw [HE.out]; rfl, ?_, B1.out.trans (B2.out.mono B1.out.size)⟩
        have he : findR ss ws = sortL l := by rw [HF.out, findL, HLE.out]; rfl
        rw [he]
        exact R2.out.mono B1.out.size
end Go.Proofs.Ytdjoflhcagfmiaa

/-
  What the program's Put answers: the disk on which a record's sectors wait, or an error.
  Conditions: none.
-/
set_option linter.unusedVariables false
set_option linter.unusedSimpArgs false
set_option maxRecDepth 100000
namespace Go.Proofs.Ytdjoflhcagfmiaa
open Go.RowKit

theorem secs_any {W : World} {lo : Nat} {v : Value} {ss : List Bs} (h : SecsAt W lo v ss) : ∃ A n c, v = .slice A n c := by
  obtain ⟨A, c, h⟩ := secs_slice h
  exact ⟨_, _, _, h⟩
theorem wts_any {W : World} {lo : Nat} {v : Value} {ws : List Wr} (h : WtsAt W lo v ws) : ∃ A n c, v = .slice A n c := by
  obtain ⟨A, c, h⟩ := wts_slice h
  exact ⟨_, _, _, h⟩
abbrev bytesV (l : Bs) : List Value := l.map u8
theorem disk_turned {W W' : World} {lo g : Nat} {d : Value} {ss : List Bs} {ws : List Wr} {cur : Array Value} {e : TypeId} (h : DiskAt W lo d ss ws) (hc : W.heap[g]? = some (.cells cur e (0, 0))) (h1 : 34 ≠ e) (h2 : 5 ≠ e) (h3 : 52 ≠ e) (hg : W.grownBy W' (some g)) : DiskAt W' lo d ss ws := by
  obtain ⟨v1, v2, rfl, hs, hw⟩ := h
  exact ⟨v1, v2, rfl, secs_turnedRow hs hc h1 h2 hg, wts_turnedRow hw hc h3 h2 hg⟩

set_option maxHeartbeats 8000000 in
theorem sput_any (d tv : Value) (ss : List Bs) (ws : List Wr) (g : Nat) (t : Bs) (hg : g < 4294967296) (w : World) (h : DiskIn w w.heap.size d ss ws) (ht : Txt w w.heap.size tv t) :
    Calls Try.prog 11 #[d, .agg #[.int .u32 (g : Int), tv]] w fun e w' => ∃ d', e = .returned (.tuple #[d', .int .i64 (putE ss ws g t)]) ∧ DiskAt w' w.heap.size d' (putS ss ws g t) (putW ss ws g t) ∧ Below w.heap.size w w' := by
  obtain ⟨v1, v2, rfl, h1, h2⟩ := id h
  have H := Lib.hid h
  have X := Lib.hid ht
  have HG := Lib.hid hg
  obtain ⟨A3, c3, rfl, -, -, -, -⟩ := ht
  obtain ⟨q, hq, q0, q1, q2, qs, qb⟩ := boxes3 w (.cells #[v1, v2] 29) (.cells #[.int .u32 (g : Int), .slice A3 t.length c3] 36) (.cells #[.slice none 0 0, .slice none 0 0] 29)
  have QB := Lib.hid qb
  have QS := Lib.hid qs
  clear h1 h2 h hg qb qs
  go_enter Try.func11, Try.ntmps11
  go_wp2_with fail
  rw [← hq]
  clear hq
  refine (check_any _ ss ws q ((H.out.below QB.out).more QB.out.size)).mono ?_
  rintro e w1 ⟨rfl, b1⟩
  have B1 := Lib.hid (QB.out.trans (b1.mono QB.out.size))
  have C0 := Lib.hid ((b1.block _ (heap_lt q0)).trans q0)
  have C1 := Lib.hid ((b1.block _ (heap_lt q1)).trans q1)
  have C2 := Lib.hid ((b1.block _ (heap_lt q2)).trans q2)
  have L1 : Hid (w.heap.size + 3 ≤ w1.heap.size) := Lib.hid (by have := b1.size; have := QS.out; omega)
  clear q0 q1 q2 b1
  obtain ⟨k0, k1⟩ := cell2_of C0.out
  obtain ⟨m0, m1⟩ := cell2_of C1.out
  obtain ⟨r0, r1⟩ := cell2_of C2.out
  have f0 := frozen2_of C2.out 0
  have f1 := frozen2_of C2.out 1
  have BAD : Hid (∀ (r : Int) (u : World), u.heap[w.heap.size + 1 + 1]? = some (.cells #[.slice none 0 0, .slice none 0 0] 29 (0, 0)) → Below w.heap.size w u → putE ss ws g t = r → r ≠ 0 →
      ∃ d', Ending.returned (.tuple #[.agg #[.slice none 0 0, .slice none 0 0], .int .i64 r]) = .returned (.tuple #[d', .int .i64 (putE ss ws g t)]) ∧ DiskAt ((u.setCell ⟨w.heap.size + 1 + 1, 0, none⟩ (.slice none 0 0)).setCell ⟨w.heap.size + 1 + 1, 1, none⟩ (.slice none 0 0)) w.heap.size d' (putS ss ws g t) (putW ss ws g t) ∧ Below w.heap.size w ((u.setCell ⟨w.heap.size + 1 + 1, 0, none⟩ (.slice none 0 0)).setCell ⟨w.heap.size + 1 + 1, 1, none⟩ (.slice none 0 0))) :=
    Lib.hid (fun r u _ hb h h0 => ⟨_, by rw [h], by rw [putS, putW, h, if_neg h0, if_neg h0]; exact DiskAt.nil_ _ _, below_set2 hb (by omega) _ _⟩)
  cases hm : mayB ss ws with
  | false =>
    have hE : putE ss ws g t = 8 := by rw [putE, hm]; rfl
    have HE := Lib.hid hE
    simp only [Bool.false_eq_true, ↓reduceIte]
    clear hm hE
    go_wp2_with fail
    exact bodyPost_ret (results_2_tmp rfl _ _ (w.heap.size + 1 + 1) rfl (zero_kept C2.out) Try.underlying29 infoDisk2 (.int .i64 8) rfl) rfl (BAD.out 8 w1 C2.out B1.out HE.out (by decide))
  | true =>
    have hM := mayB_iff.1 hm
    have HM := Lib.hid hM
    have HMB := Lib.hid hm
    simp only [↓reduceIte]
    clear hm hM
    by_cases hg0 : g = 0
    · have hE : putE ss ws g t = 2 := by rw [putE, HMB.out, if_pos rfl, if_pos hg0]
      have HE := Lib.hid hE
      have hg0' : (g : Int) = 0 := by omega
      clear hE
      go_wp2_with fail
      exact bodyPost_ret (results_2_tmp rfl _ _ (w.heap.size + 1 + 1) rfl (zero_kept C2.out) Try.underlying29 infoDisk2 (.int .i64 2) rfl) rfl (BAD.out 2 w1 C2.out B1.out HE.out (by decide))
    · have hg0' : ¬ (g : Int) = 0 := by omega
      by_cases hl : 1882 < t.length
      · have hE : putE ss ws g t = 3 := by rw [putE, HMB.out, if_pos rfl, if_neg hg0, if_pos hl]
        have HE := Lib.hid hE
        have hl' : (1882 : Int) < t.length := by omega
        clear hE
        go_wp2_with fail
        exact bodyPost_ret (results_2_tmp rfl _ _ (w.heap.size + 1 + 1) rfl (zero_kept C2.out) Try.underlying29 infoDisk2 (.int .i64 3) rfl) rfl (BAD.out 3 w1 C2.out B1.out HE.out (by decide))
      · have hl' : ¬ (1882 : Int) < t.length := by omega
        have hE : putE ss ws g t = if 256 < ws.length + cntR t then 9 else 0 := by rw [putE, HMB.out, if_pos rfl, if_neg hg0, if_neg hl]
        have HE := Lib.hid hE
        have HL : Hid (t.length ≤ 1882) := Lib.hid (by omega)
        clear hE
        go_wp2_with (refine (sslot_any g _).mono ?_; rintro e w' ⟨rfl, rfl⟩)
        refine (sectors_any g t _ w1 HG.out HL.out ((X.out.below B1.out).more B1.out.size)).mono ?_
        rintro e w3 ⟨y3, rfl, ha, b3⟩
        obtain ⟨n, hn⟩ : ∃ n, n = cntR t := ⟨_, rfl⟩
        have hlen : (secsR g t).length = n := by rw [secsR_length, hn]
        obtain ⟨A4, c4, rfl⟩ := own_sliceN (show w3.ownsRow _ _ _ _ (secsR g t).length _ from ha)
        obtain ⟨ls, hls⟩ : ∃ ls, ls = secsR g t := ⟨_, rfl⟩
        rw [← hls] at ha hlen ⊢
        rw [hlen]
        have hl128 : ∀ s ∈ ls, s.length = 128 := fun s hs => by rw [hls] at hs; exact secsR_128 hs
        have hn16 : n ≤ 16 := by rw [hn]; exact cntR_le HL.out
        have hn1 : 1 ≤ n := by rw [hn]; exact cntR_pos t
        obtain ⟨sl, hsl⟩ : ∃ sl, sl = slotN g := ⟨_, rfl⟩
        have hsl16 : sl ≤ 16 := by rw [hsl]; exact slotN_le g
        rw [← hsl]
        have HN := Lib.hid hn
        have HSL := Lib.hid hsl
        have HLS := Lib.hid hls
        have HLEN := Lib.hid hlen
        have HL128 := Lib.hid hl128
        have HA := Lib.hid ha
        have B3 := Lib.hid (B1.out.trans (b3.mono B1.out.size))
        have D3 := Lib.hid ((b3.block _ (heap_lt C0.out)).trans C0.out)
        have R3 := Lib.hid ((b3.block _ (heap_lt C2.out)).trans C2.out)
        have L3 : Hid (w.heap.size + 3 ≤ w3.heap.size) := Lib.hid (Nat.le_trans L1.out b3.size)
        clear k0 k1 m0 m1 r0 r1 f0 f1 hn hls hlen hl128 ha b3 hsl hg0 hl
        go_wp2_with fail
        go_loopw [32] (fun s32 wr => ∃ (i : Nat) (x1 x2 : Value), i ≤ n ∧ s32 = .int .i64 i ∧ ws.length + i ≤ 256 ∧ wr.heap[w.heap.size]? = some (.cells #[x1, x2] 29 (0, 0)) ∧ DiskIn wr wr.heap.size (.agg #[x1, x2]) ss (ws ++ (putWs g t).take i) ∧ (0 < i → DiskAt wr (w.heap.size + 3) (.agg #[x1, x2]) ss (ws ++ (putWs g t).take i)) ∧ w3.grownBy wr (some w.heap.size)) (fun s32 _ => n - (intOf s32).toNat)
        case atStart => exact ⟨0, v1, v2, Nat.zero_le _, rfl, by have := HM.out.m; omega, D3.out, by rw [List.take_zero, List.append_nil]; exact (H.out.below B3.out).more B3.out.size, fun h => absurd h (by omega), World.grownBy.refl _ _⟩
        case round =>
          obtain ⟨i, x1, x2, hi, rfl, hw256, hd, hin, hat, hgr⟩ := hrel
          have HD := Lib.hid hd
          have HIN := Lib.hid hin
          have HAT := Lib.hid hat
          have HGR := Lib.hid hgr
          clear hd hin hat hgr
          by_cases hlt : i < n
          · have hlt' : (i : Int) < n := by omega
            have hil : i < ls.length := by rw [HLEN.out]; exact hlt
            obtain ⟨ab, rfl, hab, hcells⟩ := HA.out.at HL128.out hil
            have hsec : ls[i].length = 128 := HL128.out _ (List.getElem_mem hil)
            have habn : ab ≠ w.heap.size := by have := L1.out; omega
            have hcw : ∀ j v, (bytesV ls[i])[j]? = some v → wr.cell? ⟨ab, i * 128 + j, none⟩ = some v := fun j v hj =>
              (World.cell?_of_block (a := ⟨ab, i * 128 + j, none⟩) (HGR.out.block ab (cell_lt (hcells j v hj)) (fun e => habn (by simpa using e)))).trans (hcells j v hj)
            have hit : i < cntR t := by rw [← HN.out]; exact hlt
            have hseq : ls[i] = secR g (bodyR g t) i := by
              have h := secsR_at (g := g) hit
              rw [← HLS.out, List.getElem?_eq_getElem hil] at h
              exact Option.some.inj h
            obtain ⟨N, hN⟩ : ∃ N : Nat, N = sl + i := ⟨_, rfl⟩
            have hwe : writeE ss (ws ++ (putWs g t).take i) (N : Int) ls[i] = if ws.length + i = 256 then 9 else 0 := by
              rw [hN, hseq, HSL.out]; exact part_writeE HM.out HL.out hw256 hit
            have hww : (ws ++ (putWs g t).take i) ++ [((N : Int), ls[i])] = ws ++ (putWs g t).take (i + 1) := by
              rw [hN, part_snoc ws hit, hseq, HSL.out]; rfl
            have HWE := Lib.hid hwe
            have HWW := Lib.hid hww
            have HIT := Lib.hid hit
            have HNN := Lib.hid hN
            generalize ls[i] = sec at hsec hcw HWE HWW
            have HSEC := Lib.hid hsec
            have HCW := Lib.hid hcw
            have hz128 := zero128.1
            clear hcells hsec hcw hwe hww hseq hil hit
            go_wp2_with (first
              | ((with_reducible show wpList _ _ _ (⟨some 36, _, _, _, _, _⟩ :: _) _ _); refine wpList_load_arr rfl _ rfl ab (i * 128) rfl HSEC.out HCW.out ?_)
              | ((with_reducible show wpList _ _ _ (⟨none, _, _, _, _, _⟩ :: _) _ _); refine wpList_store_row rfl 77 _ _ rfl wr.heap.size rfl rfl (heap_alloc_self _ _) (by rw [rowB_size, HSEC.out]; exact zero128.2) (by rw [rowB_size, HSEC.out]; simp) (rowB_one sec) ?_))
            clear hz128
            rw [World.setRow_alloc_new]
            have hv1 := heap_alloc_self wr (.cells (rowB sec) 77)
            have hvb := below_new wr (.cells (rowB sec) 77)
            generalize wr.alloc (.cells (rowB sec) 77) = v at hv1 hvb ⊢
            have V1 := Lib.hid hv1
            have VB := Lib.hid hvb
            have HDV := Lib.hid ((hvb.block _ (heap_lt HD.out)).trans HD.out)
            have HIV := Lib.hid ((HIN.out.below hvb).more hvb.size)
            have hx1 := txt_of_block hv1 (by rw [HSEC.out]; unfold maxLen; omega)
            rw [HSEC.out] at hx1
            have HX := Lib.hid hx1
            obtain ⟨A5, n5, c5, A6, n6, c6, he5, he6⟩ : ∃ A5 n5 c5 A6 n6 c6, x1 = .slice A5 n5 c5 ∧ x2 = .slice A6 n6 c6 := by
              obtain ⟨z1, z2, ez, hs1, hw1⟩ := HIN.out
              cases ez
              obtain ⟨A5, c5, e5, _⟩ := hs1
              obtain ⟨A6, c6, e6, _⟩ := hw1
              exact ⟨A5, _, c5, A6, _, c6, e5, e6⟩
            subst he5 he6
            have hx := HDV.out
            obtain ⟨d0, d1⟩ := cell2_of (show v.drew.heap[w.heap.size]? = _ from hx)
            have hsi : (sl : Int) + i = (N : Int) := by omega
            have hwrp : IntKind.i64.wrap (N : Int) = N := by simp [IntKind.wrap, IntKind.bits]; omega
            have hdv : DiskIn v.drew v.drew.heap.size (.agg #[.slice A5 n5 c5, .slice A6 n6 c6]) ss (ws ++ (putWs g t).take i) := HIV.out
            have hxv : Txt v.drew v.drew.heap.size (.slice (some ⟨wr.heap.size, 0, none⟩) 128 128) sec := HX.out
            have hwr := write_any (.agg #[.slice A5 n5 c5, .slice A6 n6 c6]) (.slice (some ⟨wr.heap.size, 0, none⟩) 128 128) ss (ws ++ (putWs g t).take i) (N : Int) sec v.drew hdv hxv
            obtain ⟨E5, hE5⟩ : ∃ E, E = writeE ss (ws ++ (putWs g t).take i) (N : Int) sec := ⟨_, rfl⟩
            obtain ⟨S5, hS5⟩ : ∃ S, S = writeS ss (ws ++ (putWs g t).take i) (N : Int) sec := ⟨_, rfl⟩
            obtain ⟨W5, hW5⟩ : ∃ W, W = writeW ss (ws ++ (putWs g t).take i) (N : Int) sec := ⟨_, rfl⟩
            rw [← hE5, ← hS5, ← hW5] at hwr
            have HE5 := Lib.hid hE5
            have HS5 := Lib.hid hS5
            have HW5 := Lib.hid hW5
            have HWR := Lib.hid hwr
            clear hE5 hS5 hW5
            clear hv1 hvb hx1 hx hN hdv hxv hwr
            go_wp2_with fail
            refine wp_region_held_drew (S := fun _ => True) (by kernel_rfl) trivial (fun hHeld => ?_)
            refine wpAnyH_take (i := 1) (v := ?_) rfl (by kernel_rfl) (by kernel_rfl) (by kernel_rfl) (fun _ _ _ h => h) (Or.inl ⟨by rfl, ?_⟩) hHeld ?_
            rotate_left
            · intro w' hSw; go_simp; try with_reducible rfl
            simp only [List.getElem_toArray, List.getElem_cons_succ, List.getElem_cons_zero, Act.put, List.setIfInBounds_toArray, List.set_cons_zero, List.set_cons_succ]
            refine wpAnyH_take (i := 2) (v := ?_) rfl (by kernel_rfl) (by kernel_rfl) (by kernel_rfl) (fun _ _ _ h => h) (Or.inl ⟨by rfl, ?_⟩) hHeld ?_
            rotate_left
            · intro w' hSw; go_simp; try with_reducible rfl
            simp only [List.getElem_toArray, List.getElem_cons_succ, List.getElem_cons_zero, Act.put, List.setIfInBounds_toArray, List.set_cons_zero, List.set_cons_succ]
            refine wpAnyH_take (i := 3) (v := ?_) rfl (by kernel_rfl) (by kernel_rfl) (by kernel_rfl) (fun _ _ _ h => h) (Or.inl ⟨by rfl, ?_⟩) hHeld ?_
            rotate_left
            · intro w' hSw; go_simp; try with_reducible rfl
            simp only [List.getElem_toArray, List.getElem_cons_succ, List.getElem_cons_zero, Act.put, List.setIfInBounds_toArray, List.set_cons_zero, List.set_cons_succ]
            refine wpAnyH_take (i := 4) (v := ?_) rfl (by kernel_rfl) (by kernel_rfl) (by kernel_rfl) (fun _ _ _ h => h) (Or.inl ⟨by rfl, ?_⟩) hHeld ?_
            rotate_left
            · intro w' hSw; go_simp; try with_reducible rfl
            simp only [List.getElem_toArray, List.getElem_cons_succ, List.getElem_cons_zero, Act.put, List.setIfInBounds_toArray, List.set_cons_zero, List.set_cons_succ]
            refine wpAnyH_ready (rs := [0]) (by kernel_rfl) (by simp) ?_
            refine AllReadyH.cons rfl (fun K hK => ?_) AllReadyH.nil
            go_simp
            refine hK.out _ _ ?_ (fun hHeld => ?_)
            · exact trivial
            clear hK K
            try simp only [List.getElem_toArray, List.getElem_cons_succ, List.getElem_cons_zero, Act.put, List.setIfInBounds_toArray, List.set_cons_zero, List.set_cons_succ]
            refine wpAnyH_ready (rs := [5]) (by kernel_rfl) (by simp) ?_
            refine AllReadyH.cons rfl (fun K hK => ?_) AllReadyH.nil
            go_simp
            refine HWR.out.mono ?_
            rintro e w5 ⟨d5, rfl, hd5, b5⟩
            have B5 : Hid (Below v.heap.size v w5) := Lib.hid ((Below.refl _ v).drew.trans b5)
            have hd5' : DiskAt w5 v.heap.size d5 S5 W5 := hd5
            have HD5 := Lib.hid hd5'
            obtain ⟨z1, z2, rfl, hz1, hz2⟩ := hd5
            obtain ⟨A7, n7, c7, rfl⟩ := secs_any hz1
            obtain ⟨A8, n8, c8, rfl⟩ := wts_any hz2
            have hx5 := (B5.out.block _ (heap_lt HDV.out)).trans HDV.out
            have HX5 := Lib.hid hx5
            obtain ⟨p0, p1⟩ := cell2_of hx5
            have g0 := frozen2_of hx5 0
            have g1 := frozen2_of hx5 1
            clear b5 hd5' hz1 hz2 hx5
            try go_wp2_with fail
            refine hK.out _ _ ?_ (fun hHeld => ?_)
            · exact trivial
            clear hK K
            try simp only [List.getElem_toArray, List.getElem_cons_succ, List.getElem_cons_zero, Act.put, List.setIfInBounds_toArray, List.set_cons_zero, List.set_cons_succ]
            refine wpAnyH_take (i := 6) (v := ?_) rfl (by kernel_rfl) (by kernel_rfl) (by kernel_rfl) (fun _ _ _ h => h) (Or.inl ⟨by rfl, ?_⟩) hHeld ?_
            rotate_left
            · intro w' hSw; go_simp; try with_reducible rfl
            simp only [List.getElem_toArray, List.getElem_cons_succ, List.getElem_cons_zero, Act.put, List.setIfInBounds_toArray, List.set_cons_zero, List.set_cons_succ]
            refine wpAnyH_take (i := 7) (v := ?_) rfl (by kernel_rfl) (by kernel_rfl) (by kernel_rfl) (fun _ _ _ h => h) (Or.inl ⟨by rfl, ?_⟩) hHeld ?_
            rotate_left
            · intro w' hSw; go_simp; try with_reducible rfl
            simp only [List.getElem_toArray, List.getElem_cons_succ, List.getElem_cons_zero, Act.put, List.setIfInBounds_toArray, List.set_cons_zero, List.set_cons_succ]
            refine wpAnyH_take (i := 8) (v := ?_) rfl (by kernel_rfl) (by kernel_rfl) (by kernel_rfl) (fun _ _ _ h => h) (Or.inl ⟨by rfl, ?_⟩) hHeld ?_
            rotate_left
            · intro w' hSw; go_simp; try with_reducible rfl
            simp only [List.getElem_toArray, List.getElem_cons_succ, List.getElem_cons_zero, Act.put, List.setIfInBounds_toArray, List.set_cons_zero, List.set_cons_succ]
            refine wpAnyH_ready (rs := [9]) (by kernel_rfl) (by simp) ?_
            refine AllReadyH.cons rfl (fun K hK => ?_) AllReadyH.nil
            go_simp
            refine hK.out _ _ ?_ (fun hHeld => ?_)
            · exact trivial
            clear hK K
            try simp only [List.getElem_toArray, List.getElem_cons_succ, List.getElem_cons_zero, Act.put, List.setIfInBounds_toArray, List.set_cons_zero, List.set_cons_succ]
            refine wpAnyH_take (i := 10) (v := ?_) rfl (by kernel_rfl) (by kernel_rfl) (by kernel_rfl) (fun _ _ _ h => h) (Or.inl ⟨by rfl, ?_⟩) hHeld ?_
            rotate_left
            · intro w' hSw; go_simp; try with_reducible rfl
            simp only [List.getElem_toArray, List.getElem_cons_succ, List.getElem_cons_zero, Act.put, List.setIfInBounds_toArray, List.set_cons_zero, List.set_cons_succ]
            refine wpAnyH_done (by kernel_rfl) ?_ _
            have hz0 := heap_set2 HX5.out (.slice A7 n7 c7) (.slice A8 n8 c8)
            have hzg := grown_set2 w5 w.heap.size (.slice A7 n7 c7) (.slice A8 n8 c8)
            have hzd := disk_turned HD5.out HX5.out (by decide) (by decide) (by decide) hzg
            generalize (w5.setCell ⟨w.heap.size, 0, none⟩ (.slice A7 n7 c7)).setCell ⟨w.heap.size, 1, none⟩ (.slice A8 n8 c8) = w6 at hz0 hzg hzd ⊢
            have Z0 := Lib.hid hz0
            have ZD := Lib.hid hzd
            have hg6 : w3.grownBy w6 (some w.heap.size) := by
              have b5 := VB.out.trans (B5.out.mono VB.out.size)
              refine ⟨hzg.os.trans (b5.os.trans HGR.out.os), hzg.tape.trans (b5.tape.trans HGR.out.tape), hzg.output.trans (b5.output.trans HGR.out.output), Nat.le_trans HGR.out.size (Nat.le_trans b5.size hzg.size), fun k hk hne => ?_⟩
              have hk1 : k < wr.heap.size := Nat.lt_of_lt_of_le hk HGR.out.size
              exact (hzg.block k (Nat.lt_of_lt_of_le hk1 b5.size) hne).trans ((b5.block k hk1).trans (HGR.out.block k hk hne))
            have G6 := Lib.hid hg6
            have VL : Hid (w.heap.size + 3 ≤ v.heap.size) := Lib.hid (by have := L3.out; have := HGR.out.size; have := VB.out.size; omega)
            clear hz0 hzg hzd hg6 p0 p1 g0 g1 hHeld hsi hwrp d0 d1
            by_cases h256 : ws.length + i = 256
            · have hE9 : E5 = 9 := by rw [HE5.out, HWE.out, if_pos h256]
              have hEE : putE ss ws g t = 9 := by rw [HE.out, if_pos (by have := HIT.out; omega)]
              have HEE := Lib.hid hEE
              rw [hE9]
              have hr := (G6.out.block (w.heap.size + 1 + 1) (heap_lt R3.out) (fun e => by have : w.heap.size + 1 + 1 = w.heap.size := (by simpa using e); omega)).trans R3.out
              have R6 := Lib.hid hr
              have B6 : Hid (Below w.heap.size w w6) := Lib.hid (B3.out.grown G6.out B3.out.size (fun k hk => by cases hk; exact Nat.le_refl _))
              obtain ⟨r0, r1⟩ := cell2_of hr
              have f0 := frozen2_of hr 0
              have f1 := frozen2_of hr 1
              clear hE9 hEE hr
              go_wp2_with fail
              exact bodyPost_ret (results_2_tmp rfl _ _ (w.heap.size + 1 + 1) rfl (zero_kept R6.out) Try.underlying29 infoDisk2 (.int .i64 9) rfl) rfl (BAD.out 9 w6 R6.out B6.out HEE.out (by decide))
            · have hE0 : E5 = 0 := by rw [HE5.out, HWE.out, if_neg h256]
              have hEE := HE5.out
              rw [hE0] at hEE
              have hSS : S5 = ss := by rw [HS5.out, writeS, ← hEE, if_pos rfl]
              have hWW : W5 = ws ++ (putWs g t).take (i + 1) := by rw [HW5.out, writeW, ← hEE, if_pos rfl, HWW.out]
              have hd6 := ZD.out
              rw [hSS, hWW] at hd6
              have D6 := Lib.hid hd6
              rw [hE0]
              clear hE0 hEE hSS hWW hd6
              go_wp2_with fail
              go_roundw
              case measure => simp [intOf]; omega
              case rel => exact ⟨i + 1, _, _, by omega, by go_num, by omega, Z0.out, D6.out.in_, fun _ => D6.out.mono VL.out, G6.out⟩
          · obtain rfl : i = n := by omega
            have hlt' : ¬ (i : Int) < i := by omega
            have hE0 : putE ss ws g t = 0 := by rw [HE.out, if_neg (by rw [← HN.out]; omega)]
            have HE0 := Lib.hid hE0
            have hall : ws ++ (putWs g t).take i = ws ++ putWs g t := by rw [List.take_of_length_le (by rw [putWs_length, ← HN.out]; exact Nat.le_refl _)]
            have hat := HAT.out (by omega)
            rw [hall] at hat
            have HA2 := Lib.hid hat
            obtain ⟨z1, z2, ez, hz1, hz2⟩ := hat
            cases ez
            obtain ⟨A7, n7, c7, rfl⟩ := secs_any hz1
            obtain ⟨A8, n8, c8, rfl⟩ := wts_any hz2
            have hr := (HGR.out.block (w.heap.size + 1 + 1) (heap_lt R3.out) (fun e => by have : w.heap.size + 1 + 1 = w.heap.size := (by simpa using e); omega)).trans R3.out
            have R4 := Lib.hid hr
            obtain ⟨d0, d1⟩ := cell2_of HD.out
            obtain ⟨r0, r1⟩ := cell2_of hr
            have f0 := frozen2_of hr 0
            have f1 := frozen2_of hr 1
            have hbw : Below w.heap.size w wr := B3.out.grown HGR.out B3.out.size (fun k hk => by cases hk; exact Nat.le_refl _)
            have HBW := Lib.hid hbw
            clear hE0 hall hz1 hz2 hr hbw
            go_wp2_with fail
            refine bodyPost_ret (results_2_tmp rfl _ _ (w.heap.size + 1 + 1) rfl (heap_set2 R4.out _ _) Try.underlying29 infoDisk2 (.int .i64 0) rfl) rfl ⟨_, by rw [HE0.out], ?_, below_set2 HBW.out (by omega) _ _⟩
            rw [putS, putW, HE0.out, if_pos rfl, if_pos rfl]
            exact (disk_turned HA2.out R4.out (by decide) (by decide) (by decide) (grown_set2 wr (w.heap.size + 1 + 1) _ _)).mono (lo := w.heap.size + 3) (Nat.le_add_right _ 3)
end Go.Proofs.Ytdjoflhcagfmiaa

/-
  The generation behind another one, as the program tells it.
  Conditions: none.
-/
set_option linter.unusedVariables false
set_option linter.unusedSimpArgs false
set_option maxRecDepth 100000
namespace Go.Proofs.Ytdjoflhcagfmiaa
open Go.RowKit

def mostL (m : Nat) (S : List Bs) : Nat := S.foldl (fun m s => max (max m (headG s)) (tailG s)) m
theorem mostL_snoc (m : Nat) (S : List Bs) (s : Bs) : mostL m (S ++ [s]) = max (max (mostL m S) (headG s)) (tailG s) := by simp [mostL, List.foldl_append]
def otherS (V : List Bs) (g : Nat) : List Bs := (V.drop (16 - slotN g)).take 16
/-- The generation behind g, if there were no greatest one. -/
def nextN (V : List Bs) (g : Nat) : Nat := if (mostL g (otherS V g) + 1) % 2 = g % 2 then mostL g (otherS V g) + 2 else mostL g (otherS V g) + 1
def nextE (ss : List Bs) (ws : List Wr) (g : Nat) : Int := if mayB ss ws then (if 4294967295 < nextN (comes ss ws (all128 ws)) g then 9 else 0) else 8
def nextG (ss : List Bs) (ws : List Wr) (g : Nat) : Nat := if nextE ss ws g = 0 then nextN (comes ss ws (all128 ws)) g else 0
theorem headG_lt (s : Bs) : headG s < 4294967296 := by
  have h := leN_lt (s.take 4)
  have h4 : (s.take 4).length ≤ 4 := by rw [List.length_take]; omega
  have := Nat.pow_le_pow_right (n := 256) (by omega) h4
  rw [headG]; omega
theorem tailG_lt {s : Bs} (h128 : s.length = 128) : tailG s < 4294967296 := by
  have h := leN_lt (s.drop 124)
  have h4 : (s.drop 124).length ≤ 4 := by rw [List.length_drop]; omega
  have := Nat.pow_le_pow_right (n := 256) (by omega) h4
  rw [tailG]; omega
theorem mostL_lt : ∀ (S : List Bs) (m : Nat), m < 4294967296 → (∀ s ∈ S, s.length = 128) → mostL m S < 4294967296
  | [], m, h, _ => h
  | s :: S, m, h, h128 => mostL_lt S _ (by show max (max m (headG s)) (tailG s) < _; have := headG_lt s; have := tailG_lt (h128 s (by simp)); omega) (fun x hx => h128 x (by simp [hx]))

theorem max3 (ts : Array TypeId) (ty : TypeId) (a b c : Nat) (w : World) : (Builtin.max_ ts ty #[.int .u32 (a : Int), .int .u32 (b : Int), .int .u32 (c : Int)]).run Try.prog w = .ok (.int .u32 ((max (max a b) c : Nat) : Int)) w := by
  rw [run_max_int3]
  congr 2
  split <;> split at * <;> omega

set_option maxHeartbeats 4000000 in
theorem snext_any (d : Value) (ss : List Bs) (ws : List Wr) (g : Nat) (hg : g < 4294967296) (w : World) (h : DiskIn w w.heap.size d ss ws) :
    Calls Try.prog 12 #[d, .int .u32 (g : Int)] w fun e w' => e = .returned (.tuple #[.int .u32 (nextG ss ws g : Nat), .int .i64 (nextE ss ws g)]) ∧ Below w.heap.size w w' := by
  obtain ⟨v1, v2, rfl, h1, h2⟩ := id h
  have H := Lib.hid h
  have HG := Lib.hid hg
  have qb := below_new w (.cells #[v1, v2] 29)
  have q0 := heap_alloc_self w (.cells #[v1, v2] 29)
  clear h1 h2 h hg
  go_enter Try.func12, Try.ntmps12
  go_wp2_with fail
  generalize w.alloc (.cells #[v1, v2] 29) = q at q0 qb ⊢
  have QB := Lib.hid qb
  refine (sseen_any _ ss ws q ((H.out.below QB.out).more QB.out.size)).mono ?_
  rintro e w1 ⟨y1, rfl, hs, b1⟩
  obtain ⟨A2, c2, rfl⟩ := secs_slice hs
  have B1 := Lib.hid (QB.out.trans (b1.mono QB.out.size))
  have S1 := Lib.hid hs.in_
  clear hs b1 q0 qb
  cases hm : mayB ss ws with
  | false =>
    have hE : syncE ss ws = 8 := by rw [syncE, hm]; rfl
    have hN : nextE ss ws g = 8 := by rw [nextE, hm]; rfl
    have hN2 : nextG ss ws g = 0 := by rw [nextG, hN]; rfl
    rw [hE]
    have HN := Lib.hid hN
    have HN2 := Lib.hid hN2
    clear hm hE hN hN2
    go_wp2_with fail
    refine bodyPost_ret (results_tmp2 rfl _ _ _) rfl ?_
    exact ⟨by rw [HN.out, HN2.out]; rfl, B1.out⟩
  | true =>
    have hM := mayB_iff.1 hm
    have hE : syncE ss ws = 0 := by rw [syncE, hm]; rfl
    have hS : syncS ss ws = comes ss ws (all128 ws) := by rw [syncS, hm]; rfl
    have hC := may_comes hM (all128 ws)
    obtain ⟨V, hV⟩ : ∃ V, V = comes ss ws (all128 ws) := ⟨_, rfl⟩
    have hNE : nextE ss ws g = if 4294967295 < nextN V g then 9 else 0 := by rw [nextE, hm, if_pos rfl, hV]
    have hNG : nextG ss ws g = if nextE ss ws g = 0 then nextN V g else 0 := by rw [nextG, hV]
    rw [← hV] at hC hS
    rw [hE]
    rw [hS] at S1 ⊢
    rw [hC.n] at S1 ⊢
    obtain ⟨k, hk⟩ : ∃ k, k = 16 - slotN g := ⟨_, rfl⟩
    have hs16 := slotN_cases g
    have hk01 : k = 0 ∨ k = 16 := by omega
    obtain ⟨b, off, rfl, hcap, hmx, hsub⟩ := S1.out.mid (k := k) (m := 16) (by omega) (by rw [hC.n]; omega)
    rw [hC.n] at hcap
    obtain ⟨S, hS0⟩ : ∃ S, S = otherS V g := ⟨_, rfl⟩
    have hSe : (V.drop k).take 16 = S := by rw [hS0, otherS, hk]
    rw [hSe] at hsub
    have hSl : S.length = 16 := by rw [← hSe, List.length_take, List.length_drop, hC.n]; omega
    have hS128 : ∀ s ∈ S, s.length = 128 := fun s hs => hC.s s (by rw [← hSe] at hs; exact List.mem_of_mem_drop (List.mem_of_mem_take hs))
    have hkI : (16 : Int) - (slotN g : Nat) = k := by omega
    have hk1 : (k : Int) + 16 ≤ c2 := by omega
    have hk2 : (0 : Int) ≤ k := by omega
    have hk3 : k ≤ 16 := by omega
    have hk4 : ¬ c2 = k := by omega
    have SU := Lib.hid hsub
    have SL := Lib.hid hSl
    have S128 := Lib.hid hS128
    have HSE := Lib.hid hS0
    have HK := Lib.hid hk
    have HC := Lib.hid hC
    have HNE := Lib.hid hNE
    have HNG := Lib.hid hNG
    clear hm hM hE hS hV hC hNE hNG hk hs16 hk01 hcap hmx hsub hS0 hSe hSl hS128
    go_wp2_with (refine (sslot_any g _).mono ?_; rintro e w' ⟨rfl, rfl⟩)
    simp only [Nat.add_sub_cancel_left]
    go_loopw [8, 31] (fun s8 s31 wr => ∃ i : Nat, i ≤ 16 ∧ s8 = .int .u32 ((mostL g (S.take i) : Nat) : Int) ∧ s31 = .int .i64 i ∧ Below w1.heap.size w1 wr) (fun _ s31 _ => 16 - (intOf s31).toNat)
    case atStart => exact ⟨0, by omega, rfl, rfl, Below.refl _ _⟩
    case round =>
      obtain ⟨i, hi, rfl, rfl, hb⟩ := hrel
      have HB := Lib.hid hb
      clear hb
      by_cases hlt : i < 16
      · have hlt' : (i : Int) < 16 := by omega
        have hiS : i < S.length := by rw [SL.out]; exact hlt
        obtain ⟨b', o', u6, e6, hsb, hcu, htu⟩ := SU.out.at hiS
        cases e6
        have hs128 : S[i].length = 128 := S128.out _ (List.getElem_mem hiS)
        have hcw := (HB.out.cell (p := ⟨b, off + k + i, none⟩) (cell_lt hcu)).trans hcu
        have hsn : mostL g (S.take (i + 1)) = max (max (mostL g (S.take i)) (headG S[i])) (tailG S[i]) := by
          rw [List.take_add_one, List.getElem?_eq_getElem hiS, Option.toList_some, mostL_snoc]
        have HTU := Lib.hid ((htu.below HB.out).more HB.out.size)
        have HSN := Lib.hid hsn
        generalize S[i] = sc at hs128 HTU HSN htu
        obtain ⟨A6, c6, rfl, hc6, -, -, -⟩ := htu
        rw [hs128] at hcw HTU hc6
        have hc64 : (4 : Int) ≤ c6 := by omega
        have hc6n : ¬ c6 = 124 := by omega
        have HS128 := Lib.hid hs128
        have ht4 : Txt wr wr.heap.size (.slice A6 4 c6) (sc.take 4) := by
          have h := HTU.out
          rw [← hs128] at h
          exact h.cut (by omega)
        have ht124 : ∃ b6 o6, A6 = some ⟨b6, o6, none⟩ ∧ Txt wr wr.heap.size (.slice (some ⟨b6, o6 + 124, none⟩) 4 (c6 - 124)) (sc.drop 124) := by
          have h := HTU.out
          rw [← hs128] at h
          obtain ⟨b6, o6, e6, _, h6⟩ := h.sub (k := 124) (L := 4) (by omega) (by omega)
          rw [List.take_of_length_le (by rw [List.length_drop, hs128]; omega)] at h6
          exact ⟨b6, o6, e6, h6⟩
        obtain ⟨b6, o6, rfl, ht124⟩ := ht124
        have hmax := max3 #[33, 33, 33] 33 (mostL g (S.take i)) (leN (sc.take 4)) (leN (sc.drop 124))
        have HT4 := Lib.hid ht4
        have HT124 := Lib.hid ht124
        generalize mostL g (S.take i) = M at HSN hmax ⊢
        clear hcu hsn hiS hs128 ht4 ht124
        go_wp2_with fail
        refine wp_region_held_drew (S := fun _ => True) (by kernel_rfl) trivial (fun hHeld => ?_)
        refine wpAnyH_take (i := 0) (v := ?_) rfl (by kernel_rfl) (by kernel_rfl) (by kernel_rfl) (fun _ _ _ h => h) (Or.inl ⟨by rfl, ?_⟩) hHeld ?_
        rotate_left
        · intro w' hSw; go_simp; try with_reducible rfl
        simp only [List.getElem_toArray, List.getElem_cons_succ, List.getElem_cons_zero, Act.put, List.setIfInBounds_toArray, List.set_cons_zero, List.set_cons_succ]
        refine wpAnyH_take (i := 1) (v := ?_) rfl (by kernel_rfl) (by kernel_rfl) (by kernel_rfl) (fun _ _ _ h => h) (Or.inl ⟨by rfl, ?_⟩) hHeld ?_
        rotate_left
        · intro w' hSw; go_simp; try with_reducible rfl
        simp only [List.getElem_toArray, List.getElem_cons_succ, List.getElem_cons_zero, Act.put, List.setIfInBounds_toArray, List.set_cons_zero, List.set_cons_succ]
        refine wpAnyH_take (i := 2) (v := ?_) rfl (by kernel_rfl) (by kernel_rfl) (by kernel_rfl) (fun _ _ _ h => h) (Or.inl ⟨by rfl, ?_⟩) hHeld ?_
        rotate_left
        · intro w' hSw; go_simp; try with_reducible rfl
        simp only [List.getElem_toArray, List.getElem_cons_succ, List.getElem_cons_zero, Act.put, List.setIfInBounds_toArray, List.set_cons_zero, List.set_cons_succ]
        refine wpAnyH_take (i := 4) (v := ?_) rfl (by kernel_rfl) (by kernel_rfl) (by kernel_rfl) (fun _ _ _ h => h) (Or.inl ⟨by rfl, ?_⟩) hHeld ?_
        rotate_left
        · intro w' hSw; go_simp; try with_reducible rfl
        simp only [List.getElem_toArray, List.getElem_cons_succ, List.getElem_cons_zero, Act.put, List.setIfInBounds_toArray, List.set_cons_zero, List.set_cons_succ]
        refine wpAnyH_take (i := 5) (v := ?_) rfl (by kernel_rfl) (by kernel_rfl) (by kernel_rfl) (fun _ _ _ h => h) (Or.inl ⟨by rfl, ?_⟩) hHeld ?_
        rotate_left
        · intro w' hSw; go_simp; try with_reducible rfl
        simp only [List.getElem_toArray, List.getElem_cons_succ, List.getElem_cons_zero, Act.put, List.setIfInBounds_toArray, List.set_cons_zero, List.set_cons_succ]
        refine wpAnyH_ready (rs := [3]) (by kernel_rfl) (by simp) ?_
        refine AllReadyH.cons rfl (fun K hK => ?_) AllReadyH.nil
        go_simp
        refine (snum_any _ _ wr.drew (HT4.out.below (Below.refl _ _).drew) (by rw [List.length_take]; omega)).mono ?_
        rintro e wA ⟨rfl, bA⟩
        have BA : Hid (Below wr.heap.size wr wA) := Lib.hid ((Below.refl _ wr).drew.trans bA)
        clear bA
        try go_wp2_with fail
        refine hK.out _ _ ?_ (fun hHeld => ?_)
        · exact trivial
        clear hK K
        try simp only [List.getElem_toArray, List.getElem_cons_succ, List.getElem_cons_zero, Act.put, List.setIfInBounds_toArray, List.set_cons_zero, List.set_cons_succ]
        refine wpAnyH_ready (rs := [6]) (by kernel_rfl) (by simp) ?_
        refine AllReadyH.cons rfl (fun K hK => ?_) AllReadyH.nil
        go_simp
        refine (snum_any _ _ wA ((HT124.out.below BA.out).more BA.out.size) (by rw [List.length_drop, HS128.out]; omega)).mono ?_
        rintro e wB ⟨rfl, bB⟩
        have BB : Hid (Below wr.heap.size wr wB) := Lib.hid (BA.out.trans (bB.mono BA.out.size))
        clear bB
        try go_wp2_with fail
        refine hK.out _ _ ?_ (fun hHeld => ?_)
        · exact trivial
        clear hK K
        try simp only [List.getElem_toArray, List.getElem_cons_succ, List.getElem_cons_zero, Act.put, List.setIfInBounds_toArray, List.set_cons_zero, List.set_cons_succ]
        refine wpAnyH_take (i := 7) (v := ?_) rfl (by kernel_rfl) (by kernel_rfl) (by kernel_rfl) (fun _ _ _ h => h) (Or.inl ⟨by rfl, ?_⟩) hHeld ?_
        rotate_left
        · intro w' hSw; go_simp; try with_reducible rfl
        simp only [List.getElem_toArray, List.getElem_cons_succ, List.getElem_cons_zero, Act.put, List.setIfInBounds_toArray, List.set_cons_zero, List.set_cons_succ]
        refine wpAnyH_take (i := 8) (v := ?_) rfl (by kernel_rfl) (by kernel_rfl) (by kernel_rfl) (fun _ _ _ h => h) (Or.inl ⟨by rfl, ?_⟩) hHeld ?_
        rotate_left
        · intro w' hSw; go_simp; try with_reducible rfl
        simp only [List.getElem_toArray, List.getElem_cons_succ, List.getElem_cons_zero, Act.put, List.setIfInBounds_toArray, List.set_cons_zero, List.set_cons_succ]
        refine wpAnyH_done (by kernel_rfl) ?_ _
        have HBB := Lib.hid (HB.out.trans (BB.out.mono HB.out.size))
        clear hmax
        go_wp2_with fail
        go_roundw
        case measure => simp [intOf]; omega
        case rel => exact ⟨i + 1, by omega, by rw [HSN.out, Nat.max_assoc]; rfl, by go_num, HBB.out⟩
      · obtain rfl : i = 16 := by omega
        have hlt' : ¬ (16 : Int) < 16 := by omega
        rw [List.take_of_length_le (by rw [SL.out]; exact Nat.le_refl _)]
        have hml : mostL g S < 4294967296 := mostL_lt S g HG.out S128.out
        have hnn : nextN V g = if (mostL g S + 1) % 2 = g % 2 then mostL g S + 2 else mostL g S + 1 := by rw [nextN, ← HSE.out]
        have HNN := Lib.hid hnn
        have BW := Lib.hid (B1.out.trans (HB.out.mono B1.out.size))
        generalize mostL g S = M at hml HNN ⊢
        have HML := Lib.hid hml
        clear hnn
        obtain ⟨N1, hN1⟩ : ∃ N1, N1 = M + 1 := ⟨_, rfl⟩
        obtain ⟨N2, hN2⟩ : ∃ N2, N2 = N1 + 1 := ⟨_, rfl⟩
        have w0 : IntKind.u64.wrap (M : Int) = M := by simp [IntKind.wrap, IntKind.bits]; omega
        have a1 : (M : Int) + 1 = N1 := by omega
        have w1 : IntKind.u64.wrap (N1 : Int) = N1 := by simp [IntKind.wrap, IntKind.bits]; omega
        have a2 : (N1 : Int) + 1 = N2 := by omega
        have w2 : IntKind.u64.wrap (N2 : Int) = N2 := by simp [IntKind.wrap, IntKind.bits]; omega
        have wg : IntKind.u64.wrap (g : Int) = g := by have := HG.out; simp [IntKind.wrap, IntKind.bits]; omega
        have HNA : Hid (nextN V g = if N1 % 2 = g % 2 then N2 else N1) := Lib.hid (by rw [HNN.out, hN2, hN1])
        clear HNN HML hml hN1 hN2
        have fin : Hid (∀ (N : Nat) (o : Ending), nextN V g = N → (4294967295 < N → o = .returned (.tuple #[.int .u32 0, .int .i64 9])) → (¬ 4294967295 < N → o = .returned (.tuple #[.int .u32 (N : Int), .int .i64 0])) → o = .returned (.tuple #[.int .u32 (nextG ss ws g : Nat), .int .i64 (nextE ss ws g)])) := Lib.hid (fun N o h1 h2 h3 => by
          have hE : nextE ss ws g = if 4294967295 < N then 9 else 0 := by rw [HNE.out, h1]
          by_cases hf : 4294967295 < N
          · have hE9 : nextE ss ws g = 9 := by rw [hE, if_pos hf]
            have hG : nextG ss ws g = 0 := by rw [HNG.out, hE9]; rfl
            rw [h2 hf, hE9, hG]; rfl
          · have hE0 : nextE ss ws g = 0 := by rw [hE, if_neg hf]
            have hG : nextG ss ws g = N := by rw [HNG.out, hE0, if_pos rfl, h1]
            rw [h3 hf, hE0, hG])
        by_cases hp : N1 % 2 = g % 2
        · have hp' : (N1 : Int) % 2 = (g : Int) % 2 := by omega
          have HN : Hid (nextN V g = N2) := Lib.hid (by rw [HNA.out, if_pos hp])
          by_cases hf : 4294967295 < N2
          · have hf' : (4294967295 : Int) < N2 := by omega
            have HF := Lib.hid hf
            clear hf hp
            go_wp2_with fail
            refine bodyPost_ret (results_tmp2 rfl _ _ _) rfl ?_
            exact ⟨fin.out N2 _ HN.out (fun _ => rfl) (fun h => absurd HF.out h), BW.out⟩
          · have hf' : ¬ (4294967295 : Int) < N2 := by omega
            have hcv : (N2 : Int) % 4294967296 = N2 := by omega
            have HF := Lib.hid hf
            clear hf hp
            go_wp2_with fail
            refine bodyPost_ret (results_tmp2 rfl _ _ _) rfl ?_
            exact ⟨fin.out N2 _ HN.out (fun h => absurd h HF.out) (fun _ => rfl), BW.out⟩
        · have hp' : ¬ (N1 : Int) % 2 = (g : Int) % 2 := by omega
          have HN : Hid (nextN V g = N1) := Lib.hid (by rw [HNA.out, if_neg hp])
          by_cases hf : 4294967295 < N1
          · have hf' : (4294967295 : Int) < N1 := by omega
            have HF := Lib.hid hf
            clear hf hp
            go_wp2_with fail
            refine bodyPost_ret (results_tmp2 rfl _ _ _) rfl ?_
            exact ⟨fin.out N1 _ HN.out (fun _ => rfl) (fun h => absurd HF.out h), BW.out⟩
          · have hf' : ¬ (4294967295 : Int) < N1 := by omega
            have hcv : (N1 : Int) % 4294967296 = N1 := by omega
            have HF := Lib.hid hf
            clear hf hp
            go_wp2_with fail
            refine bodyPost_ret (results_tmp2 rfl _ _ _) rfl ?_
            exact ⟨fin.out N1 _ HN.out (fun h => absurd h HF.out) (fun _ => rfl), BW.out⟩
end Go.Proofs.Ytdjoflhcagfmiaa

/-
  What is found once a record was put, as mathematics.
  Conditions: none.
-/
set_option linter.unusedVariables false
set_option linter.unusedSimpArgs false
set_option maxRecDepth 100000
namespace Go.Proofs.Ytdjoflhcagfmiaa

/-- All sectors as they are seen. -/
def viewL (ss : List Bs) (ws : List Wr) : List Bs := comes ss ws (all128 ws)
theorem viewL_may {ss : List Bs} {ws : List Wr} (h : May ss ws) : May (viewL ss ws) [] := may_comes h _
theorem viewL_snoc {ss : List Bs} {ws : List Wr} {x : Wr} (h : May ss ws) (hx : okW x) : viewL ss (ws ++ [x]) = (viewL ss ws).set x.1.toNat x.2 := by
  have h1 : all128 (ws ++ [x]) = all128 ws ++ [128] := by simp [all128, List.replicate_succ']
  have h2 : piecesOf (ws ++ [x]) (all128 (ws ++ [x])) = piecesOf ws (all128 ws) ++ [(x.1.toNat, x.2)] := by
    rw [h1, piecesOf_append _ _ _ _ (by simp [all128])]
    simp [piecesOf, List.take_of_length_le (by rw [hx.2.2]; exact Nat.le_refl _ : x.2.length ≤ 128)]
  have hlt : x.1.toNat < (viewL ss ws).length := by rw [(viewL_may h).n]; have := hx.1; have := hx.2.1; omega
  rw [viewL, comes, h2, layAll_snoc]
  show (viewL ss ws).modify _ _ = _
  rw [modify_set _ _ _ hlt, lay_whole (by rw [(viewL_may h).s _ (List.getElem_mem hlt), hx.2.2]; exact Nat.le_refl _)]
theorem view_part {ss : List Bs} {ws : List Wr} {g : Nat} {t : Bs} (h : May ss ws) (ht : t.length ≤ 1882) : ∀ (i : Nat), ws.length + i ≤ 256 → i ≤ cntR t → ∀ j, j < 32 →
    (viewL ss (ws ++ (putWs g t).take i))[j]? = if slotN g ≤ j ∧ j < slotN g + i then some (secR g (bodyR g t) (j - slotN g)) else (viewL ss ws)[j]?
  | 0, _, _, j, _ => by rw [List.take_zero, List.append_nil, if_neg (by omega)]
  | i + 1, h1, h2, j, hj => by
    have ih := view_part (g := g) h ht i (by omega) (by omega) j hj
    have h16 := cntR_le ht
    have hs := slotN_le g
    have hm := may_part (g := g) h ht (i := i) (by omega)
    rw [part_snoc ws (by omega), viewL_snoc hm (wrR_ok (by omega)), List.getElem?_set]
    have hN : (wrR g t i).1.toNat = slotN g + i := by show ((slotN g + i : Nat) : Int).toNat = _; omega
    have hS : (wrR g t i).2 = secR g (bodyR g t) i := rfl
    rw [hN, hS, (viewL_may hm).n]
    by_cases e : slotN g + i = j
    · subst e
      rw [if_pos rfl, if_pos hj, if_pos (by omega), show slotN g + i - slotN g = i from by omega]
    · rw [if_neg e, ih]
      by_cases e2 : slotN g ≤ j ∧ j < slotN g + i
      · rw [if_pos e2, if_pos (by omega)]
      · rw [if_neg e2, if_neg (by omega)]
theorem put_view {ss : List Bs} {ws : List Wr} {g : Nat} {t : Bs} (h : May ss ws) (ht : t.length ≤ 1882) (hr : ws.length + cntR t ≤ 256) (j : Nat) (hj : j < 32) :
    (viewL ss (ws ++ putWs g t))[j]? = if slotN g ≤ j ∧ j < slotN g + cntR t then some (secR g (bodyR g t) (j - slotN g)) else (viewL ss ws)[j]? := by
  have := view_part (g := g) h ht (cntR t) hr (Nat.le_refl _) j hj
  rwa [List.take_of_length_le (by rw [putWs_length]; exact Nat.le_refl _)] at this
theorem put_may {ss : List Bs} {ws : List Wr} {g : Nat} {t : Bs} (h : May ss ws) (ht : t.length ≤ 1882) (hr : ws.length + cntR t ≤ 256) : May ss (ws ++ putWs g t) := by
  have := may_part (g := g) h ht hr
  rwa [List.take_of_length_le (by rw [putWs_length]; exact Nat.le_refl _)] at this

/-- One slot's sectors. -/
def slotS (V : List Bs) (k : Nat) : List Bs := (V.drop k).take 16
theorem slotS_at (V : List Bs) (k i : Nat) (hi : i < 16) : (slotS V k)[i]? = V[k + i]? := by rw [slotS, List.getElem?_take_of_lt hi, List.getElem?_drop]
theorem slotS_length {V : List Bs} (h : V.length = 32) {k : Nat} (hk : k ≤ 16) : (slotS V k).length = 16 := by rw [slotS, List.length_take, List.length_drop]; omega
theorem slotS_128 {V : List Bs} (h : ∀ s ∈ V, s.length = 128) {k : Nat} : ∀ s ∈ slotS V k, s.length = 128 := fun s hs => h s (List.mem_of_mem_drop (List.mem_of_mem_take hs))
theorem slotS_eq {V V' : List Bs} {k : Nat} (h : ∀ i, i < 16 → V[k + i]? = V'[k + i]?) : slotS V k = slotS V' k := by
  apply List.ext_getElem?
  intro i
  by_cases hi : i < 16
  · rw [slotS_at _ _ _ hi, slotS_at _ _ _ hi, h i hi]
  · rw [List.getElem?_eq_none (by rw [slotS, List.length_take]; omega), List.getElem?_eq_none (by rw [slotS, List.length_take]; omega)]
theorem halfL_def (V : List Bs) (k : Nat) : halfL V k = (wholeR (slotS V k) k).toList := rfl
theorem half_mem {V : List Bs} (h : May V []) {k : Nat} (hk : k ≤ 16) {r : Rc} : r ∈ halfL V k ↔ IsWhole (slotS V k) k r.1 r.2 := by
  obtain ⟨g, t⟩ := r
  rw [halfL_def, Option.mem_toList, wholeR_iff (slotS_length h.n hk) (slotS_128 h.s)]
theorem half_one {V : List Bs} (h : May V []) {k : Nat} (hk : k ≤ 16) {g : Nat} {t : Bs} (hw : IsWhole (slotS V k) k g t) : halfL V k = [(g, t)] := by
  rw [halfL_def, (wholeR_iff (slotS_length h.n hk) (slotS_128 h.s)).2 hw]; rfl
theorem put_whole {ss : List Bs} {ws : List Wr} {g : Nat} {t : Bs} (h : May ss ws) (hok : okR g t) (hr : ws.length + cntR t ≤ 256) : halfL (viewL ss (ws ++ putWs g t)) (slotN g) = [(g, t)] := by
  have hm := put_may (g := g) h hok.2.2 hr
  have h16 := cntR_le hok.2.2
  have hs := slotN_le g
  refine half_one (viewL_may hm) hs ⟨hok, rfl, ?_⟩
  refine taken_eq (by rw [slotS_length (viewL_may hm).n hs]; omega) (fun i hi => ?_)
  rw [secsR_at hi, slotS_at _ _ _ (by omega), put_view h hok.2.2 hr _ (by omega), if_pos (by omega), show slotN g + i - slotN g = i from by omega]
theorem put_other {ss : List Bs} {ws : List Wr} {g : Nat} {t : Bs} (h : May ss ws) (hok : okR g t) (hr : ws.length + cntR t ≤ 256) : slotS (viewL ss (ws ++ putWs g t)) (16 - slotN g) = slotS (viewL ss ws) (16 - slotN g) := by
  have h16 := cntR_le hok.2.2
  refine slotS_eq fun i hi => ?_
  rcases slotN_cases g with hc | hc
  · rw [put_view h hok.2.2 hr _ (by omega), if_neg (by omega)]
  · rw [put_view h hok.2.2 hr _ (by omega), if_neg (by omega)]
theorem put_otherL {ss : List Bs} {ws : List Wr} {g : Nat} {t : Bs} (h : May ss ws) (hok : okR g t) (hr : ws.length + cntR t ≤ 256) : halfL (viewL ss (ws ++ putWs g t)) (16 - slotN g) = halfL (viewL ss ws) (16 - slotN g) := by
  rw [halfL_def, halfL_def, put_other h hok hr]

theorem sortL_mem {l : List Rc} {r : Rc} : r ∈ sortL l ↔ r ∈ l := by
  match l with
  | [] => exact Iff.rfl
  | [x] => exact Iff.rfl
  | [x, y] =>
    show r ∈ (if x.1 < y.1 then [y, x] else [x, y]) ↔ _
    split
    · simp [or_comm]
    · exact Iff.rfl
  | x :: y :: z :: l => exact Iff.rfl
theorem sortL_length (l : List Rc) : (sortL l).length = l.length := by
  match l with
  | [] => rfl
  | [x] => rfl
  | [x, y] => show (if x.1 < y.1 then [y, x] else [x, y]).length = 2; split <;> rfl
  | x :: y :: z :: l => rfl
theorem find_mem {V : List Bs} {r : Rc} : r ∈ findL V ↔ r ∈ halfL V 0 ∨ r ∈ halfL V 16 := by rw [findL, sortL_mem, List.mem_append]
theorem find_length (V : List Bs) : (findL V).length ≤ 2 := by
  rw [findL, sortL_length, List.length_append]
  have := halfL_le V 0
  have := halfL_le V 16
  omega
theorem half_slot {V : List Bs} (h : May V []) {k : Nat} (hk : k ≤ 16) {r : Rc} (hr : r ∈ halfL V k) : slotN r.1 = k := ((half_mem h hk).1 hr).2.1
theorem find_slot {V : List Bs} (h : May V []) {r : Rc} : r ∈ findL V ↔ r ∈ halfL V (slotN r.1) := by
  rw [find_mem]
  constructor
  · rintro (h1 | h1)
    · rw [half_slot h (by omega) h1]; exact h1
    · rw [half_slot h (by omega) h1]; exact h1
  · intro h1
    rcases slotN_cases r.1 with e | e <;> rw [e] at h1
    · exact .inl h1
    · exact .inr h1
theorem findR_may {ss : List Bs} {ws : List Wr} (h : May ss ws) : findR ss ws = findL (viewL ss ws) := by rw [findR, mayB_iff.2 h, if_pos rfl]; rfl
/-- What was put is found; the other slot stays. -/
theorem find_put {ss : List Bs} {ws : List Wr} {g : Nat} {t : Bs} (h : May ss ws) (hok : okR g t) (hr : ws.length + cntR t ≤ 256) {r : Rc} :
    r ∈ findR ss (ws ++ putWs g t) ↔ r = (g, t) ∨ (r ∈ findR ss ws ∧ slotN r.1 ≠ slotN g) := by
  have hm := put_may (g := g) h hok.2.2 hr
  rw [findR_may hm, findR_may h, find_slot (viewL_may hm), find_slot (viewL_may h)]
  have hs := slotN_cases g
  by_cases e : slotN r.1 = slotN g
  · rw [e, put_whole h hok hr]
    simp
  · have e2 : slotN r.1 = 16 - slotN g := by rcases slotN_cases r.1 with h1 | h1 <;> rcases hs with h2 | h2 <;> omega
    rw [e2, put_otherL h hok hr]
    constructor
    · intro h1
      exact .inr ⟨h1, by rw [← e2]; exact e⟩
    · rintro (rfl | h1)
      · exact absurd rfl e
      · exact h1.1
end Go.Proofs.Ytdjoflhcagfmiaa

/-
  The statements' own functions: a record is found; whether two records are the same; whether one is among some.
  Conditions: none.
-/
set_option linter.unusedVariables false
set_option linter.unusedSimpArgs false
set_option maxRecDepth 100000
namespace Go.Proofs.Ytdjoflhcagfmiaa
open Go.RowKit

theorem ok3 : okR 3 [] := ⟨by decide, by decide, by simp⟩
theorem put3 : putE newD [] 3 [] = 0 := by rw [putE, mayB_iff.2 may_new]; rfl
theorem put3S : putS newD [] 3 [] = newD := by rw [putS, put3, if_pos rfl]
theorem put3W : putW newD [] 3 [] = [(((16 : Nat) : Int), secR 3 (bodyR 3 []) 0)] := by rw [putW, put3, if_pos rfl]; rfl
theorem may3 : May newD [(((16 : Nat) : Int), secR 3 (bodyR 3 []) 0)] := by
  have := put_may (g := 3) (t := []) may_new (by simp) (by decide)
  exact this
theorem halfNew (k : Nat) (hk : k = 0 ∨ k = 16) : halfL (viewL newD []) k = [] := by
  have hv : viewL newD [] = newD := rfl
  have hg : genS (slotS newD k) = 0 := by
    rcases hk with rfl | rfl <;> decide
  rw [hv, halfL_def, wholeR, toldR, hg, if_pos (.inl rfl)]; rfl
theorem find3 : findR newD [(((16 : Nat) : Int), secR 3 (bodyR 3 []) 0)] = [((3 : Nat), ([] : Bs))] := by
  have h1 : halfL (viewL newD ([] ++ putWs 3 [])) (slotN 3) = [((3 : Nat), ([] : Bs))] := put_whole may_new ok3 (by decide)
  have h2 : halfL (viewL newD ([] ++ putWs 3 [])) (16 - slotN 3) = halfL (viewL newD []) (16 - slotN 3) := put_otherL may_new ok3 (by decide)
  have e1 : slotN 3 = 16 := rfl
  have e2 : ([] : List Wr) ++ putWs 3 [] = [(((16 : Nat) : Int), secR 3 (bodyR 3 []) 0)] := rfl
  rw [e1, e2] at h1 h2
  rw [findR_may may3, findL, h1, show (0 : Nat) = 16 - 16 from rfl, h2, halfNew _ (.inl rfl)]
  rfl
theorem find0 : findR newD [] = [] := by
  rw [findR_may may_new, findL, halfNew 0 (.inl rfl), halfNew 16 (.inr rfl)]; rfl
theorem sync0 {ss : List Bs} {ws : List Wr} (h : May ss ws) : syncE ss ws = 0 := by rw [syncE, mayB_iff.2 h]; rfl
theorem six3 : (secR 3 (bodyR 3 []) 0).take 6 = [3, 0, 0, 0, 0, 1] := rfl

set_option maxHeartbeats 4000000 in
theorem alive6 (w : World) : Calls Try.prog 13 #[] w fun e w' => e = .returned (.bool true) ∧ Below w.heap.size w w' := by
  go_enter Try.func13, Try.ntmps13
  go_wp2_with fail
  refine (new_any w).mono ?_
  rintro e w1 ⟨v1, rfl, hs, b1⟩
  have D1 : Hid (DiskIn w1 w1.heap.size (.agg #[v1, .slice none 0 0]) newD []) := Lib.hid ⟨_, _, rfl, hs.in_, WtsIn.nil_⟩
  have B1 := Lib.hid b1
  obtain ⟨A1, c1, rfl⟩ := secs_slice hs
  clear hs b1
  go_wp2_with fail
  refine (sput_any _ _ newD [] 3 [] (by omega) w1 D1.out (Txt.nil_ _ _)).mono ?_
  rintro e w2 ⟨d2, rfl, hd, b2⟩
  rw [put3]
  rw [put3S, put3W] at hd
  have D2 := Lib.hid hd
  have B2 := Lib.hid (B1.out.trans (b2.mono B1.out.size))
  obtain ⟨z1, z2, rfl, hz1, hz2⟩ := hd
  obtain ⟨A2, n2, c2, rfl⟩ := secs_any hz1
  obtain ⟨A3, c3, rfl⟩ := wts_slice hz2
  clear b2 hz1 hz2
  have hq := heap_alloc_self w2 (.cells #[.slice A2 n2 c2, .slice A3 1 c3] 29)
  have hqb := below_new w2 (.cells #[.slice A2 n2 c2, .slice A3 1 c3] 29)
  go_wp2_with fail
  generalize w2.alloc (.cells #[.slice A2 n2 c2, .slice A3 1 c3] 29) = q at hq hqb ⊢
  have hdq : DiskIn q q.heap.size (.agg #[.slice A2 n2 c2, .slice A3 1 c3]) newD [(((16 : Nat) : Int), secR 3 (bodyR 3 []) 0)] := (D2.out.in_.below hqb).more hqb.size
  have DQ := Lib.hid hdq
  refine (sfind_any _ _ _ q hdq).mono ?_
  rintro e w3 ⟨v3, rfl, hr, b3⟩
  rw [sync0 may3]
  rw [find3] at hr
  have B3 := Lib.hid (B2.out.trans ((hqb.trans (b3.mono hqb.size)).mono B2.out.size))
  have hd3 := (b3.block _ (heap_lt hq)).trans hq
  obtain ⟨d0, d1⟩ := cell2_of hd3
  have hd4 := hdq.below b3
  obtain ⟨z1, z2, ez, _, hw⟩ := hd4
  cases ez
  obtain ⟨b8, o8, u8', e8, hb8, hc8, hc9, ht8⟩ := hw.at (j := 0) (by simp)
  subst e8
  have ht8' : Txt w3 q.heap.size u8' (secR 3 (bodyR 3 []) 0) := ht8
  have hl8 : (secR 3 (bodyR 3 []) 0).length = 128 := secR_length _ _ _
  obtain ⟨A8, c8, rfl, hc8l, -, -, -⟩ := id ht8'
  rw [hl8] at hc9 ht8' hc8l
  have hcut : Txt w3 q.heap.size (.slice A8 6 c8) [3, 0, 0, 0, 0, 1] := by
    have h := ht8'
    rw [← hl8] at h
    have := h.cut (k := 6) (by rw [hl8]; omega)
    rwa [six3] at this
  have hconv := run_txt_string hcut
  obtain ⟨us, ho, hu, hm, ht⟩ := hr
  obtain ⟨u9, rfl⟩ : ∃ u, us = [u] := by
    match us, hu with
    | [u], _ => exact ⟨u, rfl⟩
  have ht9 := ht 0 u9 ((3 : Nat), ([] : Bs)) rfl rfl
  obtain ⟨b9, o9, c9, cs9, rfl, -⟩ := ht9
  rcases ho.2 with ⟨_, h2⟩ | ⟨br, cr, cur, er, hlor, hgr, hcr, hmr, hsr, htr⟩
  · simp at h2
  subst er
  have hk : ∀ j v, [Value.int .u32 3, .slice (some ⟨b9, o9, none⟩) 0 c9][j]? = some v → w3.cell? ⟨br, j, none⟩ = some v := fun j v hj => by
    have h := ho.cellAt j (by have := (List.getElem?_eq_some_iff.1 hj).1; simpa using this)
    rw [h]; exact hj
  have k0 := hk 0 _ rfl
  have k1 := hk 1 _ rfl
  have hc8i : (6 : Int) ≤ c8 := by omega
  have hc8a : w3.cell? ⟨b8, o8, none⟩ = some (.int .i64 16) := hc8
  have hc8b : w3.cell? ⟨b8, o8 + 1, none⟩ = some (.slice A8 128 c8) := by simpa using hc9
  clear hq hqb hdq b3 hd3 hw hb8 hc8 hc9 ht8 ht8' hcut ho hu hm ht hgr hsr htr hk hlor hcr hmr
  go_wp2_with fail
  go_ret
  exact ⟨rfl, B3.out⟩

/-- A record, as a value. -/
def RcIn (W : World) (B : Nat) (v : Value) (r : Rc) : Prop := ∃ u, v = .agg #[.int .u32 (r.1 : Int), u] ∧ Txt W B u r.2
theorem RcIn.below {W W' : World} {B : Nat} {v : Value} {r : Rc} (h : RcIn W B v r) (hb : Below B W W') : RcIn W' B v r := by
  obtain ⟨u, rfl, h⟩ := h
  exact ⟨u, rfl, h.below hb⟩
theorem RcIn.more {W : World} {B B' : Nat} {v : Value} {r : Rc} (h : RcIn W B v r) (hb : B ≤ B') : RcIn W B' v r := by
  obtain ⟨u, rfl, h⟩ := h
  exact ⟨u, rfl, h.more hb⟩
/-- A list of records, as a slice reads. -/
def RecsIn (W : World) (B : Nat) (v : Value) (rs : List Rc) : Prop :=
  ∃ (A : Option Addr) (cap : Nat), v = .slice A rs.length cap ∧ rs.length ≤ maxLen ∧
    (0 < rs.length → ∃ b off, A = some ⟨b, off, none⟩ ∧ b < B ∧ ∀ j (h : j < rs.length), ∃ u, W.cell? ⟨b, off + j * 2, none⟩ = some (.int .u32 ((rs[j]).1 : Int)) ∧ W.cell? ⟨b, off + j * 2 + 1, none⟩ = some u ∧ Txt W B u (rs[j]).2)
theorem RecsIn.below {W W' : World} {B : Nat} {v : Value} {rs : List Rc} (h : RecsIn W B v rs) (hb : Below B W W') : RecsIn W' B v rs := by
  obtain ⟨A, cap, h0, h1, h3⟩ := h
  refine ⟨A, cap, h0, h1, fun hp => ?_⟩
  obtain ⟨b, off, ha, hlt, hc⟩ := h3 hp
  refine ⟨b, off, ha, hlt, fun j hj => ?_⟩
  obtain ⟨u, hi, hu, ht⟩ := hc j hj
  exact ⟨u, (hb.cell (p := ⟨b, _, none⟩) hlt).trans hi, (hb.cell (p := ⟨b, _, none⟩) hlt).trans hu, ht.below hb⟩
theorem RecsIn.more {W : World} {B B' : Nat} {v : Value} {rs : List Rc} (h : RecsIn W B v rs) (hB : B ≤ B') : RecsIn W B' v rs := by
  obtain ⟨A, cap, h0, h1, h3⟩ := h
  refine ⟨A, cap, h0, h1, fun hp => ?_⟩
  obtain ⟨b, off, ha, hlt, hc⟩ := h3 hp
  refine ⟨b, off, ha, by omega, fun j hj => ?_⟩
  obtain ⟨u, hi, hu, ht⟩ := hc j hj
  exact ⟨u, hi, hu, ht.more hB⟩
theorem rcells_at : ∀ (rs : List Rc) (us : List Value) (j : Nat) (r : Rc) (u : Value), rs[j]? = some r → us[j]? = some u → (rcells rs us)[j * 2]? = some (.int .u32 (r.1 : Int)) ∧ (rcells rs us)[j * 2 + 1]? = some u
  | [], _, j, r, u, h, _ => by simp at h
  | r0 :: rs, [], j, r, u, _, h => by simp at h
  | r0 :: rs, u0 :: us, 0, r, u, h, h' => by simp at h h'; subst h h'; exact ⟨rfl, rfl⟩
  | r0 :: rs, u0 :: us, j + 1, r, u, h, h' => by
    have := rcells_at rs us j r u (by simpa using h) (by simpa using h')
    show (Value.int .u32 (r0.1 : Int) :: u0 :: rcells rs us)[(j + 1) * 2]? = _ ∧ (Value.int .u32 (r0.1 : Int) :: u0 :: rcells rs us)[(j + 1) * 2 + 1]? = _
    rw [show (j + 1) * 2 = j * 2 + 1 + 1 from by omega]
    simpa using this
theorem rcells_length : ∀ (rs : List Rc) (us : List Value), us.length = rs.length → (rcells rs us).length = 2 * rs.length
  | [], [], _ => rfl
  | r :: rs, u :: us, h => by
    have := rcells_length rs us (by simpa using h)
    show (Value.int .u32 (r.1 : Int) :: u :: rcells rs us).length = _
    simp only [List.length_cons] at *
    omega
theorem RecsAt.in_ {W : World} {lo : Nat} {v : Value} {rs : List Rc} (h : RecsAt W lo v rs) : RecsIn W W.heap.size v rs := by
  obtain ⟨us, ho, hl, hm, ht⟩ := h
  have ho' := ho
  have hc := rcells_length rs us hl
  rcases ho.2 with ⟨rfl, h0⟩ | ⟨g, cap, cur, rfl, _, hgb, hcap, hcur⟩
  · exact ⟨none, 0, by rw [h0], hm, fun h => absurd h (by omega)⟩
  · refine ⟨_, cap, rfl, hm, fun _ => ⟨g, 0, rfl, (Array.getElem?_eq_some_iff.1 hgb).1, fun j hj => ?_⟩⟩
    have hr : rs[j]? = some rs[j] := List.getElem?_eq_getElem hj
    have hy : us[j]? = some us[j] := List.getElem?_eq_getElem (by omega)
    obtain ⟨c1, c2⟩ := rcells_at rs us j _ _ hr hy
    refine ⟨us[j], ?_, ?_, (ht j _ _ hy hr).txt⟩
    · rw [Nat.zero_add, ho'.cellAt (j * 2) (by omega), c1]
    · rw [Nat.zero_add, ho'.cellAt (j * 2 + 1) (by omega), c2]
/-- One record of a list. -/
theorem RecsIn.at {W : World} {B n cap : Nat} {A : Option Addr} {rs : List Rc} (h : RecsIn W B (.slice A n cap) rs) {j : Nat} (hj : j < rs.length) :
    ∃ b off u, A = some ⟨b, off, none⟩ ∧ b < B ∧ W.cell? ⟨b, off + j * 2, none⟩ = some (.int .u32 ((rs[j]).1 : Int)) ∧ W.cell? ⟨b, off + j * 2 + 1, none⟩ = some u ∧ Txt W B u (rs[j]).2 := by
  obtain ⟨A', cap', e, _, h3⟩ := h
  cases e
  obtain ⟨b, off, ha, hb, hc⟩ := h3 (by omega)
  obtain ⟨u, hi, hu, ht⟩ := hc j hj
  exact ⟨b, off, u, ha, hb, hi, hu, ht⟩

theorem same6 (v y : Value) (a b : Rc) (w : World) (h : RcIn w w.heap.size v a) (h' : RcIn w w.heap.size y b) :
    Calls Try.prog 24 #[v, y] w fun e w' => e = .returned (.bool (decide (a = b))) ∧ Below w.heap.size w w' := by
  obtain ⟨ga, ta⟩ := a
  obtain ⟨gb, tb⟩ := b
  obtain ⟨u1, rfl, t1⟩ := h
  obtain ⟨u2, rfl, t2⟩ := h'
  obtain ⟨A1, k1, q1, h1⟩ : ∃ A n c, u1 = .slice A n c := by obtain ⟨A, c, e, _⟩ := t1; exact ⟨A, _, c, e⟩
  obtain ⟨A2, k2, q2, h2⟩ : ∃ A n c, u2 = .slice A n c := by obtain ⟨A, c, e, _⟩ := t2; exact ⟨A, _, c, e⟩
  subst h1 h2
  have HB0 : Hid (Below w.heap.size w ((w.alloc (.cells #[.int .u32 (ga : Int), .slice A1 k1 q1] 36)).alloc (.cells #[.int .u32 (gb : Int), .slice A2 k2 q2] 36))) := Lib.hid ((below_new w _).alloc (by simp) _)
  have hd : decide ((⟨ta.toArray⟩ : ByteArray) = ⟨tb.toArray⟩) = decide (ta = tb) := by
    apply decide_eq_decide.2
    constructor
    · intro e
      have := congrArg (fun b : ByteArray => b.data.toList) e
      simpa using this
    · intro e; rw [e]
  have c1 := run_txt_string (t1.below HB0.out)
  have c2 := run_txt_string (t2.below HB0.out)
  have HD := Lib.hid hd
  have HEQ : Hid (∀ c : Bool, c = (if ga = gb then decide (ta = tb) else false) → c = decide ((ga, ta) = (gb, tb))) := Lib.hid (by
    intro c hc
    rw [hc]
    by_cases h : ga = gb
    · rw [if_pos h]; exact decide_eq_decide.2 ⟨fun h2 => by rw [h, h2], fun h2 => (Prod.mk.inj h2).2⟩
    · rw [if_neg h]; exact (decide_eq_false (fun h2 => h (Prod.mk.inj h2).1)).symm)
  clear hd t1 t2
  by_cases h : ga = gb
  · subst h
    go_enter Try.func24, Try.ntmps24
    go_wp2_with fail
    go_ret
    refine ⟨?_, HB0.out⟩
    rw [show decide (ta = tb) = (ta == tb) from by rw [Bool.eq_iff_iff]; simp]
    rfl
  · have hda : ¬ (ga : Int) = gb := by omega
    go_enter Try.func24, Try.ntmps24
    go_wp2_with fail
    go_ret
    refine ⟨?_, HB0.out⟩
    rfl
end Go.Proofs.Ytdjoflhcagfmiaa

/-
  What is found once one record, and once two records were put, as mathematics.
  Conditions: none.
-/
set_option linter.unusedVariables false
set_option linter.unusedSimpArgs false
set_option maxRecDepth 100000
namespace Go.Proofs.Ytdjoflhcagfmiaa

theorem putE_bad {ss : List Bs} {ws : List Wr} {g : Nat} {t : Bs} (h : mayB ss ws = false) : putE ss ws g t = 8 := by rw [putE, h]; rfl
theorem putE_zero {ss : List Bs} {ws : List Wr} {g : Nat} {t : Bs} (hg : g < 4294967296) (h : putE ss ws g t = 0) : May ss ws ∧ okR g t ∧ ws.length + cntR t ≤ 256 ∧ putS ss ws g t = ss ∧ putW ss ws g t = ws ++ putWs g t := by
  have hS : putS ss ws g t = ss := by rw [putS, if_pos h]
  have hW : putW ss ws g t = ws ++ putWs g t := by rw [putW, if_pos h]
  rw [putE] at h
  split at h
  · rename_i hm
    split at h
    · cases h
    · split at h
      · cases h
      · split at h
        · cases h
        · exact ⟨mayB_iff.1 hm, ⟨by omega, hg, by omega⟩, by omega, hS, hW⟩
  · cases h
theorem one_of {α : Type} {l : List α} (h : l.length = 1) : ∃ x, l = [x] := by
  match l, h with
  | [x], _ => exact ⟨x, rfl⟩
theorem find_halves {V : List Bs} (h : (findL V).length = 2) : ∃ x y, halfL V 0 = [x] ∧ halfL V 16 = [y] := by
  rw [findL, sortL_length, List.length_append] at h
  have h1 := halfL_le V 0
  have h2 := halfL_le V 16
  obtain ⟨x, hx⟩ := one_of (show (halfL V 0).length = 1 by omega)
  obtain ⟨y, hy⟩ := one_of (show (halfL V 16).length = 1 by omega)
  exact ⟨x, y, hx, hy⟩
theorem find_two {V : List Bs} (h : May V []) {a b : Rc} (hl : findL V = [a, b]) : b.1 < a.1 ∧ slotN a.1 ≠ slotN b.1 := by
  obtain ⟨x, y, hx, hy⟩ := find_halves (V := V) (by rw [hl]; rfl)
  have sx : slotN x.1 = 0 := half_slot h (by omega) (by rw [hx]; simp)
  have sy : slotN y.1 = 16 := half_slot h (by omega) (by rw [hy]; simp)
  rw [findL, hx, hy] at hl
  have hs : (if x.1 < y.1 then [y, x] else [x, y]) = [a, b] := hl
  have hne : x.1 ≠ y.1 := fun e => by rw [e, sy] at sx; omega
  split at hs
  · cases hs
    exact ⟨by assumption, by rw [sx, sy]; omega⟩
  · cases hs
    exact ⟨by omega, by rw [sx, sy]; omega⟩
theorem back_find {ss : List Bs} {ws : List Wr} {g : Nat} {t : Bs} {g' : Nat} {t' : Bs} (h : May ss ws) (hok : okR g t) (hok' : okR g' t') (hr : ws.length + cntR t' + cntR t ≤ 256) (hne : slotN g ≠ slotN g') :
    halfL (viewL ss ((ws ++ putWs g' t') ++ putWs g t)) (slotN g) = [(g, t)] ∧ halfL (viewL ss ((ws ++ putWs g' t') ++ putWs g t)) (slotN g') = [(g', t')] := by
  have hm := put_may (g := g') h hok'.2.2 (by omega)
  have hl : (ws ++ putWs g' t').length + cntR t ≤ 256 := by rw [List.length_append, putWs_length]; omega
  refine ⟨put_whole hm hok hl, ?_⟩
  have e : slotN g' = 16 - slotN g := by rcases slotN_cases g with h1 | h1 <;> rcases slotN_cases g' with h2 | h2 <;> omega
  rw [e, put_otherL hm hok hl, ← e]
  exact put_whole h hok' (by omega)
theorem back_two {ss : List Bs} {ws : List Wr} {g : Nat} {t : Bs} {g' : Nat} {t' : Bs} (h : May ss ws) (hok : okR g t) (hok' : okR g' t') (hr : ws.length + cntR t' + cntR t ≤ 256) (hne : slotN g ≠ slotN g') :
    ∃ x y, findR ss ((ws ++ putWs g' t') ++ putWs g t) = [x, y] ∧ findR ss ((ws ++ putWs g t) ++ putWs g' t') = [x, y] := by
  obtain ⟨a1, a2⟩ := back_find h hok hok' hr hne
  obtain ⟨b1, b2⟩ := back_find h hok' hok (by omega) (Ne.symm hne)
  have m1 : May ss ((ws ++ putWs g' t') ++ putWs g t) := put_may (put_may h hok'.2.2 (by omega)) hok.2.2 (by rw [List.length_append, putWs_length]; omega)
  have m2 : May ss ((ws ++ putWs g t) ++ putWs g' t') := put_may (put_may h hok.2.2 (by omega)) hok'.2.2 (by rw [List.length_append, putWs_length]; omega)
  rw [findR_may m1, findR_may m2]
  generalize viewL ss ((ws ++ putWs g' t') ++ putWs g t) = V1 at *
  generalize viewL ss ((ws ++ putWs g t) ++ putWs g' t') = V2 at *
  have two : ∀ p q : Rc, ∃ x y, sortL [p, q] = [x, y] := fun p q => by
    show ∃ x y, (if p.1 < q.1 then [q, p] else [p, q]) = [x, y]
    split
    · exact ⟨_, _, rfl⟩
    · exact ⟨_, _, rfl⟩
  rcases slotN_cases g with h1 | h1
  · have h2 : slotN g' = 16 := by rcases slotN_cases g' with h2 | h2 <;> omega
    rw [h1] at a1 b2
    rw [h2] at a2 b1
    obtain ⟨x, y, e⟩ := two (g, t) (g', t')
    exact ⟨x, y, by rw [findL, a1, a2]; exact e, by rw [findL, b1, b2]; exact e⟩
  · have h2 : slotN g' = 0 := by rcases slotN_cases g' with h2 | h2 <;> omega
    rw [h1] at a1 b2
    rw [h2] at a2 b1
    obtain ⟨x, y, e⟩ := two (g', t') (g, t)
    exact ⟨x, y, by rw [findL, a1, a2]; exact e, by rw [findL, b1, b2]; exact e⟩
end Go.Proofs.Ytdjoflhcagfmiaa

/-
  The generation behind another one, as mathematics.
  Conditions: none.
-/
set_option linter.unusedVariables false
set_option linter.unusedSimpArgs false
set_option maxRecDepth 100000
namespace Go.Proofs.Ytdjoflhcagfmiaa

theorem read_view {ss : List Bs} {ws : List Wr} (h : May ss ws) {m : Nat} (hm : m < 32) : (viewL ss ws)[m]? = some (readS ss ws (m : Int)) := by
  obtain ⟨hl, e⟩ := readS_good h hm
  rw [viewL, comes, layAll_at, List.getElem?_eq_getElem hl, e]; rfl
theorem mostL_ge : ∀ (S : List Bs) (m : Nat), m ≤ mostL m S
  | [], m => Nat.le_refl _
  | s :: S, m => Nat.le_trans (by omega : m ≤ max (max m (headG s)) (tailG s)) (mostL_ge S _)
theorem mostL_mem : ∀ (S : List Bs) (m : Nat) (s : Bs), s ∈ S → headG s ≤ mostL m S ∧ tailG s ≤ mostL m S
  | [], m, s, h => by cases h
  | x :: S, m, s, h => by
    rcases List.mem_cons.1 h with rfl | h
    · have := mostL_ge S (max (max m (headG s)) (tailG s))
      show headG s ≤ mostL (max (max m (headG s)) (tailG s)) S ∧ tailG s ≤ mostL (max (max m (headG s)) (tailG s)) S
      omega
    · exact mostL_mem S _ s h
theorem next_parts (V : List Bs) (g : Nat) : mostL g (otherS V g) < nextN V g ∧ nextN V g ≤ mostL g (otherS V g) + 2 ∧ nextN V g % 2 ≠ g % 2 := by
  rw [nextN]
  split
  · omega
  · exact ⟨by omega, by omega, by assumption⟩
theorem next_eg {ss : List Bs} {ws : List Wr} (h : May ss ws) {g : Nat} (hl : nextN (viewL ss ws) g ≤ 4294967295) : nextE ss ws g = 0 ∧ nextG ss ws g = nextN (viewL ss ws) g := by
  have h1 : nextE ss ws g = 0 := by rw [nextE, mayB_iff.2 h, if_pos rfl, show comes ss ws (all128 ws) = viewL ss ws from rfl, if_neg (by omega)]
  exact ⟨h1, by rw [nextG, h1, if_pos rfl]; rfl⟩
theorem slot_ne {a b : Nat} (h : a % 2 ≠ b % 2) : slotN a = 16 - slotN b ∧ slotN a ≠ slotN b := by
  unfold slotN
  omega
theorem next_slot (V : List Bs) (g : Nat) : slotN (nextN V g) = 16 - slotN g ∧ slotN (nextN V g) ≠ slotN g := slot_ne (next_parts V g).2.2
theorem other_at {ss : List Bs} {ws : List Wr} (h : May ss ws) (g : Nat) {i : Nat} (hi : i < 16) : (otherS (viewL ss ws) g)[i]? = some (readS ss ws ((16 - slotN g + i : Nat) : Int)) := by
  have hs := slotN_le g
  rw [otherS, List.getElem?_take_of_lt hi, List.getElem?_drop, read_view h (by omega)]
theorem other_length {ss : List Bs} {ws : List Wr} (h : May ss ws) (g : Nat) : (otherS (viewL ss ws) g).length = 16 := by
  have hs := slotN_le g
  rw [otherS, List.length_take, List.length_drop, (viewL_may h).n]
  omega
theorem next_first {ss : List Bs} {ws : List Wr} {n : Nat} {t : Bs} (h : May ss ws) (hok : okR n t) (hr : ws.length + cntR t ≤ 256) :
    ∃ a, (findR ss (ws ++ putWs n t))[0]? = some a ∧ (a.1 = n ∨ (n < a.1 ∧ slotN a.1 ≠ slotN n)) := by
  have hm := put_may (g := n) h hok.2.2 hr
  have hin : (n, t) ∈ findR ss (ws ++ putWs n t) := (find_put h hok hr).2 (.inl rfl)
  rw [findR_may hm] at hin ⊢
  have hl := find_length (viewL ss (ws ++ putWs n t))
  have htwo : ∀ a b : Rc, findL (viewL ss (ws ++ putWs n t)) = [a, b] → b.1 < a.1 ∧ slotN a.1 ≠ slotN b.1 := fun a b e => find_two (viewL_may hm) e
  generalize findL (viewL ss (ws ++ putWs n t)) = L at *
  match L, hl, hin, htwo with
  | [a], _, hin, _ =>
    refine ⟨a, rfl, .inl ?_⟩
    rw [← List.mem_singleton.1 hin]
  | [a, b], _, hin, htwo =>
    obtain ⟨h1, h2⟩ := htwo a b rfl
    refine ⟨a, rfl, ?_⟩
    rcases List.mem_cons.1 hin with e | e
    · exact .inl (by rw [← e])
    · have e := List.mem_singleton.1 e
      exact .inr ⟨by rw [← e] at h1; exact h1, by rw [← e] at h2; exact h2⟩
end Go.Proofs.Ytdjoflhcagfmiaa

/-
  Whether a record is among some, as the statements ask it.
  Conditions: none.
-/
set_option linter.unusedVariables false
set_option linter.unusedSimpArgs false
set_option maxRecDepth 100000
namespace Go.Proofs.Ytdjoflhcagfmiaa
open Go.RowKit

set_option maxHeartbeats 1000000 in
theorem among6 (v y : Value) (rs : List Rc) (r : Rc) (w : World) (h : RecsIn w w.heap.size v rs) (hr : RcIn w w.heap.size y r) (hlm : rs.length ≤ 100) :
    Calls Try.prog 23 #[v, y] w fun e w' => e = .returned (.bool (decide (r ∈ rs))) ∧ Below w.heap.size w w' := by
  have H := Lib.hid h
  have R := Lib.hid hr
  obtain ⟨A, cap, rfl, hmx, -⟩ := h
  obtain ⟨u1, rfl, t1⟩ := hr
  obtain ⟨A1, k1, q1, h1⟩ : ∃ A n c, u1 = .slice A n c := by obtain ⟨A, c, e, _⟩ := t1; exact ⟨A, _, c, e⟩
  subst h1
  have hq := heap_alloc_self w (.cells #[.int .u32 (r.1 : Int), .slice A1 k1 q1] 36)
  have hqb := below_new w (.cells #[.int .u32 (r.1 : Int), .slice A1 k1 q1] 36)
  clear t1 hmx
  go_enter Try.func23, Try.ntmps23
  go_wp2_with fail
  generalize w.alloc (.cells #[.int .u32 (r.1 : Int), .slice A1 k1 q1] 36) = q at hq hqb ⊢
  have Q := Lib.hid hq
  have QB := Lib.hid hqb
  clear hq hqb
  go_loopw [5] (fun s5 wr => ∃ i : Nat, i ≤ rs.length ∧ s5 = .int .i64 i ∧ (∀ j, j < i → ∀ x, rs[j]? = some x → x ≠ r) ∧ Below q.heap.size q wr) (fun s5 _ => rs.length - (intOf s5).toNat)
  case atStart => exact ⟨0, Nat.zero_le _, rfl, fun j hj => by omega, Below.refl _ _⟩
  case round =>
    obtain ⟨i, hi, rfl, hne, hb⟩ := hrel
    have HNE := Lib.hid hne
    have HB := Lib.hid hb
    have hbw := QB.out.trans (hb.mono QB.out.size)
    have HBW := Lib.hid hbw
    clear hne hb
    by_cases hlt : i < rs.length
    · have hlt' : (i : Int) < rs.length := by omega
      obtain ⟨b, off, u, rfl, hb0, hc0, hc1, ht⟩ := H.out.at hlt
      have hc0 := (hbw.cell (p := ⟨b, _, none⟩) hb0).trans hc0
      have hc1 := (hbw.cell (p := ⟨b, _, none⟩) hb0).trans hc1
      have HT := Lib.hid ((ht.below hbw).more hbw.size)
      obtain ⟨A5, k5, q5, h5⟩ : ∃ A n c, u = .slice A n c := by obtain ⟨A, c, e, _⟩ := ht; exact ⟨A, _, c, e⟩
      subst h5
      have hcr := (HB.out.block _ (heap_lt Q.out)).trans Q.out
      have HRI := Lib.hid ((R.out.below HBW.out).more HBW.out.size)
      have hget : rs[i]? = some rs[i] := List.getElem?_eq_getElem hlt
      have HGET := Lib.hid hget
      generalize rs[i] = x at hc0 HT HGET
      have C0 := Lib.hid hc0
      have C1 := Lib.hid hc1
      have CR := Lib.hid hcr
      clear hbw ht hget hc0 hc1 hcr
      go_wp2_with fail
      refine wp_region_still_tail 5 (by kernel_rfl) (by kernel_rfl) ?_
      change wpStill _ _ (World.drew wr) (fun a' => wpList _ _ _ _ a' (World.drew wr)) _ _
      have hc0 : wr.drew.cell? ⟨b, off + i * 2, none⟩ = some (.int .u32 (x.1 : Int)) := C0.out
      have hc1 : wr.drew.cell? ⟨b, off + i * 2 + 1, none⟩ = some (.slice A5 k5 q5) := C1.out
      have hcr : wr.drew.heap[w.heap.size]? = some (.cells #[.int .u32 (r.1 : Int), .slice A1 k1 q1] 36 (0, 0)) := CR.out
      obtain ⟨d0, d1⟩ := cell2_of hcr
      have HT2 : Hid (Txt wr.drew wr.drew.heap.size (.slice A5 k5 q5) x.2) := HT
      have HR2 : Hid (RcIn wr.drew wr.drew.heap.size (.agg #[.int .u32 (r.1 : Int), .slice A1 k1 q1]) r) := HRI
      have HB2 : Hid (Below q.heap.size q wr.drew) := Lib.hid HB.out.drew
      generalize wr.drew = v2 at hc0 hc1 d0 d1 HT2 HR2 HB2 ⊢
      clear hcr HB HT HRI C0 C1 CR
      simp only [List.take_succ_cons, List.take_zero, List.drop_succ_cons, List.drop_zero]
      repeat still_step
      refine wpStill_nil ?_
      clear hc0 hc1 d0 d1
      go_wp2_with fail
      refine (same6 _ _ x r v2 ⟨_, rfl, HT2.out⟩ HR2.out).mono ?_
      rintro e w3 ⟨rfl, b3⟩
      have B3 := Lib.hid (HB2.out.trans (b3.mono HB2.out.size))
      clear b3
      by_cases he : x = r
      · have hd : decide (x = r) = true := decide_eq_true he
        have hmem : r ∈ rs := by rw [← he]; exact List.mem_of_getElem? HGET.out
        have HM := Lib.hid (decide_eq_true hmem : decide (r ∈ rs) = true)
        rw [hd]
        clear he hd hmem
        go_wp2_with fail
        go_ret
        exact ⟨by rw [HM.out]; rfl, QB.out.trans (B3.out.mono QB.out.size)⟩
      · have hd : decide (x = r) = false := decide_eq_false he
        have HX := Lib.hid he
        rw [hd]
        clear he hd
        go_wp2_with fail
        go_roundw
        case measure => simp [intOf]; omega
        case rel =>
          refine ⟨i + 1, by omega, by go_num, fun j hj z hz => ?_, B3.out⟩
          rcases Nat.lt_or_ge j i with h | h
          · exact HNE.out j h z hz
          · obtain rfl : j = i := by omega
            rw [HGET.out] at hz
            cases hz
            exact HX.out
    · obtain rfl : i = rs.length := by omega
      have hlt' : ¬ (rs.length : Int) < rs.length := by omega
      have hmem : r ∉ rs := fun hm => by
        obtain ⟨j, hj⟩ := List.mem_iff_getElem?.1 hm
        exact HNE.out j (List.getElem?_eq_some_iff.1 hj).1 r hj rfl
      have HM := Lib.hid (decide_eq_false hmem : decide (r ∈ rs) = false)
      clear hmem hbw
      go_wp2_with fail
      go_ret
      exact ⟨by rw [HM.out]; rfl, HBW.out⟩
end Go.Proofs.Ytdjoflhcagfmiaa

/-
  A record, and a list of texts, that come in as arguments read as such.
  Conditions: none.
-/
set_option linter.unusedVariables false
set_option linter.unusedSimpArgs false
set_option maxRecDepth 100000
namespace Go.Proofs.Ytdjoflhcagfmiaa
open Go.ChangeShapes Go.WideShapes Go.ChangeAt Go.RowKit Go.Joins Go.Deep

theorem rec_of_arg {H : Type} {enc : TypeId × Value → H} {W : World} {base : Nat} {v : Value} {d : DataW H} {p : List MemPlace} (hval : Value.okWide Try.prog W .any base 36 v) (h : DataW.Trod enc Try.prog W 0 (fun _ => true) true 36 v d p) :
    ∃ (g : Nat) (t : Bs), g < 4294967296 ∧ RcIn W W.heap.size v (g, t) := by
  obtain ⟨v0, v1, y0, y1, n, rfl, _, _, h0, h1⟩ := open_agg2 Try.underlying36 (by kernel_rfl) (by kernel_rfl) hval h
  obtain ⟨z, e0, _, hwf⟩ := DataW.trod_int Try.underlying33 h0
  obtain ⟨xs, hx⟩ := txt_of_trod h1
  have hb := bounds_u32 hwf
  cases e0
  exact ⟨z.toNat, xs, by omega, v1, by rw [show ((z.toNat : Nat) : Int) = z from by omega], hx⟩

theorem secs_of_arg {H : Type} {enc : TypeId × Value → H} {W : World} {base : Nat} {v : Value} {d : DataW H} {p : List MemPlace} (hval : Value.okWide Try.prog W .any base 26 v) (h : DataW.Trod enc Try.prog W 0 (fun _ => true) true 26 v d p) :
    ∃ ss, SecsIn W W.heap.size v ss := by
  obtain ⟨a, len, cap, rfl⟩ := okWide_slice Try.underlying26 hval
  obtain ⟨fuel, hf⟩ := h
  exact secs_of_trod (by simpa [Value.cells] using hf)

theorem int_u32 {a : Int} (h : (Lit.int .u32 a).wf = true) : ∃ n : Nat, n < 4294967296 ∧ a = (n : Int) := by
  have hb := bounds_u32 h
  exact ⟨a.toNat, by omega, by omega⟩
end Go.Proofs.Ytdjoflhcagfmiaa
