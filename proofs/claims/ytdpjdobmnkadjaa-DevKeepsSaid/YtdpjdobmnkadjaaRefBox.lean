/-
  A disk under construction, in a box: a sector, or a write, put behind the others.
  Conditions: none.
-/
import Derived.Test.YtdpjdobmnkadjaaRefRow
import Derived.Test.YtdpjdobmnkadjaaDevBox
set_option linter.unusedVariables false
set_option linter.unusedSimpArgs false
namespace Go.Proofs.Ytdpjdobmnkadjaa
open Go.RowKit

theorem wts_kept {W W' : World} {lo : Nat} {v v0 : Value} {ws : List Wr} {b e size n : Nat} {xs : List Value} (h : WtsAt W lo v ws) (h0 : W.ownsRow b e size v0 n xs) (h1 : 58 ≠ e) (h2 : 5 ≠ e) (hg : W.grownBy W' v0.ownBlock) : WtsAt W' lo v ws := by
  obtain ⟨ys, ho, hl, hm, he⟩ := h
  exact ⟨ys, ho.kept hg (owns_apart h1 ho h0), hl, hm, fun j y s h3 h4 => ⟨(he j y s h3 h4).1.kept hg (owns_apart h2 (he j y s h3 h4).1 h0), (he j y s h3 h4).2⟩⟩

/-- What is left of a box behind an append to a row of its own. -/
theorem box_row {W w1 w5 : World} {p lo e size n m : Nat} {c : Array Value} {t : TypeId} {v v5 : Value} {ys zs : List Value} {o : Obj} (hp : p < lo) (hc : W.heap[p]? = some (.cells c t (0, 0))) (ho : W.ownsRow lo e size v n ys) (hlo : lo ≤ W.heap.size) (hb1 : Below W.heap.size W w1)
    (hgr : (w1.alloc o).grownBy w5 v.ownBlock) : w5.heap[p]? = some (.cells c t (0, 0)) ∧ Below lo W w5 := by
  have hb2 : Below W.heap.size W (w1.alloc o) := hb1.alloc hb1.size o
  refine ⟨(hgr.block p (Nat.lt_of_lt_of_le (heap_lt hc) hb2.size) (fun e => by have := own_ge ho p e.symm; omega)).trans ((hb2.block p (heap_lt hc)).trans hc), ?_⟩
  exact (hb2.mono hlo).grown hgr (Nat.le_trans hlo hb2.size) (own_ge ho)

theorem box_secs {W w1 w5 : World} {p lo : Nat} {v v2 v5 y : Value} {ss : List Bs} {s : Bs} {ws : List Wr} {ys : List Value} {o : Obj} (hp : p < lo) (hc : W.heap[p]? = some (.cells #[v, v2] 25 (0, 0)))
    (ho : W.ownsRow lo 30 1 v ss.length ys) (hl : ys.length = ss.length)
    (he : ∀ (j : Nat) (y : Value) (s : Bs), ys[j]? = some y → ss[j]? = some s → W.ownsRow lo 5 1 y s.length (s.map u8) ∧ s.length ≤ maxLen)
    (hd : ∀ (i j : Nat) (y z : Value) (b : Nat), ys[i]? = some y → ys[j]? = some z → y.ownBlock = some b → z.ownBlock = some b → i = j)
    (hw : WtsAt W lo v2 ws) (hlo : lo ≤ W.heap.size) (hb1 : Below W.heap.size W w1) (hy : w1.ownsRow W.heap.size 5 1 y s.length (s.map u8)) (hs : s.length ≤ maxLen) (hmx : ss.length + 1 ≤ maxLen)
    (hown : w5.ownsRow lo 30 1 v5 (ss.length + 1) (ys ++ [y])) (hgr : (w1.alloc o).grownBy w5 v.ownBlock) :
    w5.heap[p]? = some (.cells #[v, v2] 25 (0, 0)) ∧ Below lo W w5 ∧ (w5.setCell ⟨p, 0, none⟩ v5).heap[p]? = some (.cells #[v5, v2] 25 (0, 0)) ∧ SecsAt (w5.setCell ⟨p, 0, none⟩ v5) lo v5 (ss ++ [s]) ∧ WtsAt (w5.setCell ⟨p, 0, none⟩ v5) lo v2 ws ∧ Below p W (w5.setCell ⟨p, 0, none⟩ v5) ∧ lo ≤ (w5.setCell ⟨p, 0, none⟩ v5).heap.size := by
  have hv : (w1.alloc o).ownsRow lo 30 1 v ss.length ys := (owns_below ho hb1).alloc o
  obtain ⟨h1, h2⟩ := box_row (m := 0) (v5 := v5) (zs := []) hp hc ho hlo hb1 hgr
  have hg := grown_set w5 p 0 v5
  refine ⟨h1, h2, heap_setA h1 v5, secs_grown (secs_snoc ho hl he hd hlo hb1 hy hs hmx hown hgr) hg hp, wts_grown (wts_kept ((hw.below hb1).below (below_new w1 o)) hv (by decide) (by decide) hgr) hg hp, below_set (h2.mono (by omega)) (Nat.le_refl _) 0 v5, ?_⟩
  exact Nat.le_trans (Nat.le_trans hlo h2.size) hg.size

theorem box_wts {W w1 w5 : World} {p lo : Nat} {v1 v v5 y : Value} {ss : List Bs} {x : Wr} {ws : List Wr} {ys : List Value} {o : Obj} (hp : p < lo) (hc : W.heap[p]? = some (.cells #[v1, v] 25 (0, 0)))
    (ho : W.ownsRow lo 58 2 v ws.length (wcells ws ys)) (hl : ys.length = ws.length)
    (he : ∀ (j : Nat) (y : Value) (w : Wr), ys[j]? = some y → ws[j]? = some w → W.ownsRow lo 5 1 y w.2.length (w.2.map u8) ∧ w.2.length ≤ maxLen)
    (hss : SecsAt W lo v1 ss) (hlo : lo ≤ W.heap.size) (hb1 : Below W.heap.size W w1) (hy : w1.ownsRow W.heap.size 5 1 y x.2.length (x.2.map u8)) (hs : x.2.length ≤ maxLen) (hmx : ws.length + 1 ≤ maxLen)
    (hown : w5.ownsRow lo 58 2 v5 (ws.length + 1) (wcells ws ys ++ [.int .i64 x.1, y])) (hgr : (w1.alloc o).grownBy w5 v.ownBlock) :
    w5.heap[p]? = some (.cells #[v1, v] 25 (0, 0)) ∧ Below lo W w5 ∧ (w5.setCell ⟨p, 1, none⟩ v5).heap[p]? = some (.cells #[v1, v5] 25 (0, 0)) ∧ SecsAt (w5.setCell ⟨p, 1, none⟩ v5) lo v1 ss ∧ WtsAt (w5.setCell ⟨p, 1, none⟩ v5) lo v5 (ws ++ [x]) ∧ Below p W (w5.setCell ⟨p, 1, none⟩ v5) ∧ lo ≤ (w5.setCell ⟨p, 1, none⟩ v5).heap.size := by
  have hv : (w1.alloc o).ownsRow lo 58 2 v ws.length (wcells ws ys) := (owns_below ho hb1).alloc o
  obtain ⟨h1, h2⟩ := box_row (m := 0) (v5 := v5) (zs := []) hp hc ho hlo hb1 hgr
  have hg := grown_set w5 p 1 v5
  refine ⟨h1, h2, heap_setB h1 v5, secs_grown (secs_kept ((hss.below hb1).below (below_new w1 o)) hv (by decide) (by decide) hgr) hg hp, wts_grown (wts_snoc ho hl he hlo hb1 hy hs hmx hown hgr) hg hp, below_set (h2.mono (by omega)) (Nat.le_refl _) 1 v5, ?_⟩
  exact Nat.le_trans (Nat.le_trans hlo h2.size) hg.size
end Go.Proofs.Ytdpjdobmnkadjaa
