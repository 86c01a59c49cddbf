/-
  Sync and Crash, as the program answers them.
  Conditions: none.
-/
import Derived.Test.YtdjoflhcagfmiaaDevNew
set_option linter.unusedVariables false
set_option linter.unusedSimpArgs false
set_option maxRecDepth 100000
namespace Go.Proofs.Ytdjoflhcagfmiaa
open Go.RowKit

/-- The results of a function whose results are a struct of two cells in memory, and a slot. -/
theorem results_2_tmp {P : Program} {fn : Func} {p u : Tmp} {ty : TypeId} (h : fn.results = #[.cell p ty, .tmp u]) (tmps : Array Value) (w : World) (g : Nat) {v1 v2 : Value} {t : TypeId} {fr : Nat × Nat} (hp : tmps.getD p undef = .pointer (some ⟨g, 0, none⟩)) (hb : w.heap[g]? = some (.cells #[v1, v2] t fr))
    {fs : Array Field} (hu : P.underlying ty = some (.struct fs)) (hi : (P.info? ty).map (·.size) = some 2) (x : Value) (hx : tmps.getD u undef = x) : (results fn tmps).run P w = .ok (.tuple #[.agg #[v1, v2], x]) w := by
  have hp' : tmps[p]?.getD undef = .pointer (some ⟨g, 0, none⟩) := by simpa using hp
  rw [results_cell_tmp h, hp, hx]
  simp [asAddr, run_loadVar_row w g t ty #[v1, v2] fr _ hb hu rfl (by simpa using hi)]

/-- Two boxes more: what lies in them, and below. -/
theorem two_boxes (w : World) (o1 o2 : Obj) : ((w.alloc o1).alloc o2).heap[w.heap.size]? = some o1 ∧ ((w.alloc o1).alloc o2).heap[w.heap.size + 1]? = some o2 ∧ Below w.heap.size w ((w.alloc o1).alloc o2) := by
  refine ⟨?_, ?_, (below_new w _).alloc (by simp) _⟩
  · rw [heap_alloc_lt _ _ (by rw [heap_alloc_size]; omega)]; exact heap_alloc_self _ _
  · have := heap_alloc_self (w.alloc o1) o2
    rwa [heap_alloc_size] at this
/-- The struct of noughts in a box, and the same stored into it. -/
theorem zero_kept {W : World} {b : Nat} (h : W.heap[b]? = some (.cells #[.slice none 0 0, .slice none 0 0] 29 (0, 0))) : ((W.setCell ⟨b, 0, none⟩ (.slice none 0 0)).setCell ⟨b, 1, none⟩ (.slice none 0 0)).heap[b]? = some (.cells #[.slice none 0 0, .slice none 0 0] 29 (0, 0)) := heap_set2 h _ _
theorem below_set2 {B b : Nat} {w W : World} (h : Below B w W) (hb : B ≤ b) (x y : Value) : Below B w ((W.setCell ⟨b, 0, none⟩ x).setCell ⟨b, 1, none⟩ y) := below_set (below_set h hb 0 x) hb 1 y

def syncE (ss : List Bs) (ws : List Wr) : Int := if mayB ss ws then 0 else 8
def syncS (ss : List Bs) (ws : List Wr) : List Bs := if mayB ss ws then comes ss ws (all128 ws) else []

set_option maxHeartbeats 1000000 in
theorem sync_any (d : Value) (ss : List Bs) (ws : List Wr) (w : World) (h : DiskIn w w.heap.size d ss ws) :
    Calls Try.prog 30 #[d] w fun e w' => ∃ d', e = .returned (.tuple #[d', .int .i64 (syncE ss ws)]) ∧ DiskAt w' w.heap.size d' (syncS ss ws) [] ∧ Below w.heap.size w w' := by
  obtain ⟨v1, v2, rfl, h1, h2⟩ := id h
  have H := Lib.hid h
  clear h1 h2 h
  have hq := two_boxes w (.cells #[v1, v2] 29) (.cells #[.slice none 0 0, .slice none 0 0] 29)
  go_enter Try.func30, Try.ntmps30
  go_wp2_with fail
  generalize (w.alloc (.cells #[v1, v2] 29)).alloc (.cells #[.slice none 0 0, .slice none 0 0] 29) = q at hq ⊢
  obtain ⟨q0, q1, qb⟩ := hq
  have QB := Lib.hid qb
  refine (check_any _ ss ws q ((H.out.below QB.out).more QB.out.size)).mono ?_
  rintro e w1 ⟨rfl, b1⟩
  have B1 := Lib.hid (QB.out.trans (b1.mono QB.out.size))
  have C0 := Lib.hid ((b1.block _ (heap_lt q0)).trans q0)
  have C1 := Lib.hid ((b1.block _ (heap_lt q1)).trans q1)
  clear q0 q1 qb b1 QB
  obtain ⟨k0, k1⟩ := cell2_of C0.out
  obtain ⟨r0, r1⟩ := cell2_of C1.out
  have f0 := frozen2_of C1.out 0
  have f1 := frozen2_of C1.out 1
  cases hm : mayB ss ws with
  | false =>
    have HM := Lib.hid hm
    simp only [Bool.false_eq_true, ↓reduceIte]
    clear hm
    go_wp2_with fail
    refine bodyPost_ret (v := .tuple #[.agg #[.slice none 0 0, .slice none 0 0], .int .i64 8]) ?_ rfl ⟨_, by rw [syncE, HM.out]; rfl, ?_, below_set2 B1.out (by omega) _ _⟩
    · exact results_2_tmp rfl _ _ (w.heap.size + 1) rfl (zero_kept C1.out) Try.underlying29 infoDisk2 _ rfl
    · rw [syncS, HM.out]; exact DiskAt.nil_ _ _
  | true =>
    have HM := Lib.hid hm
    simp only [↓reduceIte]
    clear hm
    go_wp2_with fail
    refine (come_whole _ ss ws (all128 ws) w1 ((H.out.below B1.out).more B1.out.size) (mayB_iff.1 HM.out) (by simp [all128]) (fun k hk => by rw [List.eq_of_mem_replicate hk]; omega) (fun i hi => by
      rw [List.getD_eq_getElem?_getD, List.getElem?_eq_getElem hi]; simp [all128])).mono ?_
    rintro e w2 ⟨y1, rfl, hs, b2⟩
    obtain ⟨A2, c2, rfl⟩ := secs_slice hs
    have S2 := Lib.hid hs
    have B2 := Lib.hid (B1.out.trans (b2.mono B1.out.size))
    have C2 := Lib.hid ((b2.block _ (heap_lt C1.out)).trans C1.out)
    have L2 := Lib.hid (heap_lt C1.out)
    clear hs b2 k0 k1 r0 r1 f0 f1
    obtain ⟨r0, r1⟩ := cell2_of C2.out
    have f0 := frozen2_of C2.out 0
    have f1 := frozen2_of C2.out 1
    go_wp2_with fail
    refine bodyPost_ret (v := .tuple #[.agg #[.slice A2 (comes ss ws (all128 ws)).length c2, .slice none 0 0], .int .i64 0]) ?_ rfl ⟨_, by rw [syncE, HM.out]; rfl, ?_, below_set2 B2.out (by omega) _ _⟩
    · exact results_2_tmp rfl _ _ (w.heap.size + 1) rfl (heap_set2 C2.out _ _) Try.underlying29 infoDisk2 _ rfl
    · rw [syncS, HM.out]; exact ⟨_, _, rfl, (secs_grown S2.out (grown_set2 w2 (w.heap.size + 1) _ _) L2.out).mono (Nat.le_trans (Nat.le_succ _) (Nat.le_of_lt L2.out)), WtsAt.nil_ _ _⟩
end Go.Proofs.Ytdjoflhcagfmiaa
