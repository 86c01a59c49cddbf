/-
 What PlanFewer's walk keeps: the copy of a plan, whose lists may be shortened.
 Conditions: none.
-/
import Derived.Test.YtccbdpeicemnjaaTGPlnRefD
import Derived.Test.YtccbdpeicemnjaaTGPlnRefC
set_option linter.unusedVariables false
set_option linter.unusedSimpArgs false
set_option maxRecDepth 100000
namespace Go.Proofs.Ytccbdpeicemnjaa
open Go.RowKit

theorem flat_take {sz : Nat} : ∀ (yss : List (List Value)) (k : Nat), (∀ ys ∈ yss, ys.length = sz) → k ≤ yss.length → yss.flatten.take (k * sz) = (yss.take k).flatten
 | yss, 0, _, _ => by simp
 | [], k + 1, _, hk => by simp at hk
 | y :: yss, k + 1, h, hk => by
  have hy := h y (by simp)
  rw [List.flatten_cons, List.take_succ_cons, List.flatten_cons, show (k + 1) * sz = y.length + k * sz from by rw [hy, Nat.succ_mul]; omega, List.take_length_add_append, flat_take yss k (fun z hz => h z (by simp [hz])) (by simpa using hk)]
theorem flat_drop {sz : Nat} : ∀ (yss : List (List Value)) (k : Nat), (∀ ys ∈ yss, ys.length = sz) → k ≤ yss.length → yss.flatten.drop (k * sz) = (yss.drop k).flatten
 | yss, 0, _, _ => by simp
 | [], k + 1, _, hk => by simp at hk
 | y :: yss, k + 1, h, hk => by
  have hy := h y (by simp)
  rw [List.flatten_cons, List.drop_succ_cons, show (k + 1) * sz = y.length + k * sz from by rw [hy, Nat.succ_mul]; omega, List.drop_length_add_append, flat_drop yss k (fun z hz => h z (by simp [hz])) (by simpa using hk)]
theorem routeO_full {lo : Nat} {W : World} {B : Nat} {c : Nat → Option Value} {x : Rt} (h : RouteO lo W B c x) : ∀ k, k < 7 → ∃ v, c k = some v ∧ v.oneCell' = true := fun k hk => by
 obtain ⟨h0, h1, h2, h6, u3, u4, u5, h3, h4, h5, hr, -⟩ := h
 match k, hk with
 | 0, _ => exact ⟨_, h0, rfl⟩
 | 1, _ => exact ⟨_, h1, rfl⟩
 | 2, _ => exact ⟨_, h2, rfl⟩
 | 3, _ => obtain ⟨yss, ho, -⟩ := hr.path; exact ⟨_, h3, own_oneCell ho⟩
 | 4, _ => obtain ⟨yss, ho, -⟩ := hr.over; exact ⟨_, h4, own_oneCell ho⟩
 | 5, _ => obtain ⟨yss, ho, -⟩ := hr.flanks; exact ⟨_, h5, own_oneCell ho⟩
 | 6, _ => exact ⟨_, h6, rfl⟩
/-- The rows of a list of routes of the call's own, parted at one of them. -/
structure Parted (W : World) (lo g c k : Nat) (yss : List (List Value)) (l : List Rt) : Prop where
 ge : lo ≤ g
 len : yss.length = l.length
 size : ∀ ys ∈ yss, ys.length = 7
 each : ∀ (j : Nat) (ys : List Value) (x : Rt), yss[j]? = some ys → l[j]? = some x → RouteO lo W W.heap.size (fun k => ys[k]?) x
 row : ∃ cur, W.heap[g]? = some (.cells cur 34 (0, 0))
 first : W.ownsRow lo 34 7 (.slice (some ⟨g, 0, none⟩) k c) k (yss.take k).flatten
 cells : ∀ j u, (yss.drop (k + 1)).flatten[j]? = some u → W.cell? ⟨g, (k + 1) * 7 + j, none⟩ = some u
 last : (yss.drop (k + 1)).flatten.length = (l.length - (k + 1)) * 7
 one : ∀ u ∈ (yss.drop (k + 1)).flatten, u.oneCell' = true
 cap : l.length ≤ c ∧ c ≤ maxLen
theorem routes_parted {W : World} {lo n c : Nat} {A : Option Addr} {l : List Rt} (h : RoutesOwn W lo (.slice A n c) l) {k : Nat} (hk : k < l.length) : ∃ g yss, A = some ⟨g, 0, none⟩ ∧ Parted W lo g c k yss l := by
 obtain ⟨yss, ho, hl, hm, hs, ht⟩ := h
 have ho' := ho
 rcases ho.2 with ⟨e, h0⟩ | ⟨g, cap, cur, e, hlo, hb, hcap, hmx, hcs, htake⟩
 ·omega
 ·injection e with e1 e2 e3
  subst e1
  subst e2
  subst e3
  refine ⟨g, yss, rfl, ⟨hlo, hl, hs, ht, ⟨cur, hb⟩, ⟨?_, .inr ⟨g, c, cur, rfl, hlo, hb, by omega, hmx, hcs, ?_⟩⟩, fun j u hj => ?_, ?_, fun u hu => ?_, ⟨hcap, hmx⟩⟩⟩
  ·rw [flat_length _ (fun ys h => hs ys (List.mem_of_mem_take h)), List.length_take]
   congr 1
   omega
  ·rw [← flat_take yss k hs (by omega), ← htake, List.take_take, Nat.min_eq_left (Nat.mul_le_mul_right 7 (by omega))]
  ·rw [← flat_drop yss (k + 1) hs (by omega), List.getElem?_drop] at hj
   have hlt := (List.getElem?_eq_some_iff.1 hj).1
   rw [flat_length _ hs, hl] at hlt
   rw [cell_of_row _ _ _ _ _ _ hb]
   have h2 := ho'.cellAt (g := g) ((k + 1) * 7 + j) hlt
   rw [cell_of_row _ _ _ _ _ _ hb] at h2
   rw [h2]
   exact hj
  ·rw [flat_length _ (fun ys h => hs ys (List.mem_of_mem_drop h)), List.length_drop, hl]
  ·obtain ⟨ys, hy, hu2⟩ := List.mem_flatten.1 hu
   have hy2 := List.mem_of_mem_drop hy
   obtain ⟨j, hj, rfl⟩ := List.getElem_of_mem hy2
   obtain ⟨i, hi, rfl⟩ := List.getElem_of_mem hu2
   have hlen := hs _ (List.getElem_mem hj)
   obtain ⟨v, hv, h1⟩ := routeO_full (ht j _ _ (List.getElem?_eq_getElem hj) (List.getElem?_eq_getElem (by omega))) i (by omega)
   rw [List.getElem?_eq_getElem hi] at hv
   injection hv with hv
   rw [hv]
   exact h1
theorem Parted.cut {W W' : World} {lo g c k n : Nat} {v' : Value} {l : List Rt} {yss : List (List Value)} (h : Parted W lo g c k yss l) (hk : k < l.length) (hg : W.grownBy W' (some g)) (hown : W'.ownsRow lo 34 7 v' n ((yss.take k).flatten ++ (yss.drop (k + 1)).flatten)) (hn : n = (l.eraseIdx k).length) (hm : n ≤ maxLen) :
  RoutesOwn W' lo v' (l.eraseIdx k) := by
 have he : yss.eraseIdx k = yss.take k ++ yss.drop (k + 1) := List.eraseIdx_eq_take_drop_succ _ _
 refine ⟨yss.eraseIdx k, by rw [← hn, he, List.flatten_append]; exact hown, by rw [List.length_eraseIdx, List.length_eraseIdx, h.len], by rw [← hn]; exact hm, fun ys hy => h.size ys (List.mem_of_mem_eraseIdx hy), fun j ys x h1 h2 => ?_⟩
 rw [List.getElem?_eraseIdx] at h1 h2
 split at h1
 ·rename_i hj
  rw [if_pos hj] at h2
  exact routeO_grown h.ge (h.each j ys x h1 h2) hg h.row
 ·rename_i hj
  rw [if_neg hj] at h2
  exact routeO_grown h.ge (h.each (j + 1) ys x h1 h2) hg h.row

/-- The copy of a plan, with the box that holds it. -/
structure CopyAt (W : World) (lo p6 : Nat) (row : Array Value) (u2 u3 u4 u5 : Value) (p : Pl) (sg : List Sg) (rs : List Rt) : Prop where
 x6 : W.heap[p6]? = some (.cells row 27 (0, 0))
 secs : SectsOwn W lo u2 p.secs
 pts : PointsOwn W lo u3 p.pts
 sigs : SigsOwn W lo u4 sg
 routes : RoutesOwn W lo u5 rs
section
variable {W W' : World} {lo p6 : Nat} {row : Array Value} {u2 u3 u4 u5 : Value} {p : Pl} {sg : List Sg} {rs : List Rt}
theorem CopyAt.below (h : CopyAt W lo p6 row u2 u3 u4 u5 p sg rs) (hb : Below W.heap.size W W') : CopyAt W' lo p6 row u2 u3 u4 u5 p sg rs :=
 ⟨(hb.block _ (heap_lt h.x6)).trans h.x6, h.secs.below (secO_ lo) hb, h.pts.below joinR hb, h.sigs.below sigR hb, h.routes.below (routeO lo) hb⟩
theorem CopyAt.set (h : CopyAt W lo p6 row u2 u3 u4 u5 p sg rs) (k : Nat) (x : Value) : CopyAt (W.setCell ⟨p6, k, none⟩ x) lo p6 (row.setIfInBounds k x) u2 u3 u4 u5 p sg rs := by
 have hg := grown_setK W p6 k x
 have hf := far_plan h.x6
 exact ⟨heap_setK h.x6 x, sects_far h.secs hg hf, own_far joinF h.pts hg hf (fun Te h => h.2.2.1), own_far sigF h.sigs hg hf (fun Te h => h.2.2.2.1), routes_far h.routes hg hf ⟨_, _, h.x6⟩⟩
theorem CopyAt.cut {g c k n : Nat} {v' : Value} {yss : List (List Value)} (h : CopyAt W lo p6 row u2 u3 u4 u5 p sg rs) (hp : Parted W lo g c k yss rs) (hk : k < rs.length) (hg : W.grownBy W' (some g)) (hown : W'.ownsRow lo 34 7 v' n ((yss.take k).flatten ++ (yss.drop (k + 1)).flatten)) (hn : n = (rs.eraseIdx k).length) (hm : n ≤ maxLen) :
  CopyAt W' lo p6 row u2 u3 u4 v' p sg (rs.eraseIdx k) := by
 obtain ⟨cur, hc⟩ := hp.row
 have hf : FarB W (some g) := fun k hk => by cases hk; exact ⟨cur, _, _, hc, by decide, by decide, by decide, by decide, by decide, by decide⟩
 exact ⟨heap_other (by decide) h.x6 hc hg, sects_far h.secs hg hf, own_far joinF h.pts hg hf (fun Te h => h.2.2.1), own_far sigF h.sigs hg hf (fun Te h => h.2.2.2.1), hp.cut hk hg hown hn hm⟩
theorem CopyAt.left {u4' : Value} {sg' : List Sg} (h : CopyAt W lo p6 row u2 u3 u4 u5 p sg rs) (hs : SigsOwn W lo u4' sg') : CopyAt W lo p6 row u2 u3 u4' u5 p sg' rs := ⟨h.x6, h.secs, h.pts, hs, h.routes⟩
end
theorem namedB_take {rs : List Rt} {k : Nat} (hk : k < rs.length) (s : Sg) : namedB (rs.take (k + 1)) s = (namedB (rs.take k) s || decide (rs[k].entry = s.1 ∨ rs[k].exit = s.1)) := by
 rw [namedB, List.take_add_one, List.getElem?_eq_getElem hk, List.any_append]
 simp only [Option.toList_some, List.any_cons, List.any_nil, Bool.or_false]
 rfl
theorem filter_take {f : Sg → Bool} {l : List Sg} {i : Nat} (hi : i < l.length) : (l.take (i + 1)).filter f = (l.take i).filter f ++ if f l[i] then [l[i]] else [] := by
 rw [List.take_add_one, List.getElem?_eq_getElem hi, List.filter_append]
 simp only [Option.toList_some, List.filter_cons, List.filter_nil]
end Go.Proofs.Ytccbdpeicemnjaa
