/-
 Lists turned one element after the other; calls laid one by one; elements of a state of one's own set.
 Conditions: none.
-/
import Derived.Test.YtemmgmjhomgbbaaQGStaMem
import Derived.Test.YtemmgmjhomgbbaaQGStaO
import Derived.Test.YtemmgmjhomgbbaaQGWayM
set_option linter.unusedVariables false
set_option linter.unusedSimpArgs false
set_option maxRecDepth 100000
namespace Go.Proofs.Ytemmgmjhomgbbaa
open Go.RowKit

def mixT {α : Type} (l m : List α) (i : Nat) : List α := m.take i ++ l.drop i
theorem mixT_zero {α : Type} (l m : List α) : mixT l m 0 = l := by simp [mixT]
theorem mixT_all {α : Type} {l m : List α} (h : l.length = m.length) {i : Nat} (hi : i = m.length) : mixT l m i = m := by subst hi; rw [mixT, List.take_length, ← h, List.drop_length, List.append_nil]
theorem mixT_len {α : Type} {l m : List α} (h : l.length = m.length) {i : Nat} (hi : i ≤ m.length) : (mixT l m i).length = m.length := by simp [mixT]; omega
theorem mixT_at {α : Type} {l m : List α} (h : l.length = m.length) {i : Nat} (hi : i < m.length) : (mixT l m i)[i]'(by rw [mixT_len h (by omega)]; exact hi) = l[i]'(by omega) := by
 unfold mixT
 rw [List.getElem_append_right (by simp; omega)]
 simp only [List.getElem_drop]
 congr 1
 simp only [List.length_take]
 omega
theorem mixT_set {α : Type} {l m : List α} (h : l.length = m.length) {i : Nat} (hi : i < m.length) : (mixT l m i).set i m[i] = mixT l m (i + 1) := by
 refine List.ext_getElem? fun j => ?_
 rw [List.getElem?_set]
 unfold mixT
 by_cases e : i = j
 ·subst e
  rw [if_pos rfl, if_pos (by simp; omega), List.getElem?_append_left (by simp; omega), List.getElem?_take_of_lt (by omega), List.getElem?_eq_getElem hi]
 ·rw [if_neg e]
  rcases Nat.lt_or_ge j i with h1 | h1
  ·rw [List.getElem?_append_left (by simp; omega), List.getElem?_append_left (by simp; omega), List.getElem?_take_of_lt h1, List.getElem?_take_of_lt (by omega)]
  ·rw [List.getElem?_append_right (by simp; omega), List.getElem?_append_right (by simp; omega), List.getElem?_drop, List.getElem?_drop]
   simp only [List.length_take]
   congr 1
   omega
theorem mixT_skip {α : Type} {l m : List α} (h : l.length = m.length) {i : Nat} (hi : i < m.length) (e : m[i] = l[i]'(by omega)) : mixT l m (i + 1) = mixT l m i := by
 rw [← mixT_set h hi, e, ← mixT_at h hi]
 exact List.set_getElem_self _
theorem far_cells15 {W : World} {g b j : Nat} {v : Value} {c cur : Array Value} {T T' : TypeId} (h : W.heap[b]? = some (.cells c T (0, 0))) (hg : W.heap[g]? = some (.cells cur T' (0, 0))) (hT : T ≠ T') : (W.setCell ⟨g, j, none⟩ v).heap[b]? = some (.cells c T (0, 0)) :=
 (heap_setFar W g j b v (fun e => by
  rw [e, hg] at h
  injection h with h
  injection h with _ h2 _
  exact hT h2.symm)).trans h
theorem st_setSw2c {W : World} {lo : Nat} {u0 u1 u2 : Value} {s : St15} (h : StOwn W lo u0 u1 u2 s) {i : Nat} (hi : i < s.sw.length) (z : Int) :
  ∃ g c, u1 = .slice (some ⟨g, 0, none⟩) s.sw.length c ∧ lo ≤ g ∧ (∃ cur, W.heap[g]? = some (.cells cur 62 (0, 0))) ∧ StOwn (W.setCell ⟨g, i * 3 + 2, none⟩ (.int .i64 z)) lo u0 u1 u2 ⟨s.tr, s.sw.set i (s.sw[i].1, s.sw[i].2.1, z), s.lk⟩ := by
 obtain ⟨g, c, e, hlo, hcur, ho⟩ := own_setAt15 (R := SigR) (sz := 3) (k := 2) (x := .int .i64 z) (y := (s.sw[i].1, s.sw[i].2.1, z)) sigF h.sw hi (by decide) (fun c hc => by exact ⟨hc.1, hc.2.1, rfl⟩)
 exact ⟨g, c, e, hlo, hcur, own_off15 trkF h.tr (grown_setK W g _ _) (by decide) hcur, ho, own_off15 lckF h.lk (grown_setK W g _ _) (by decide) hcur⟩
theorem st_setLk1c {W : World} {lo : Nat} {u0 u1 u2 : Value} {s : St15} (h : StOwn W lo u0 u1 u2 s) {i : Nat} (hi : i < s.lk.length) {z : Int} (hz : 0 ≤ z ∧ z < 256) :
  ∃ g c, u2 = .slice (some ⟨g, 0, none⟩) s.lk.length c ∧ lo ≤ g ∧ (∃ cur, W.heap[g]? = some (.cells cur 48 (0, 0))) ∧ StOwn (W.setCell ⟨g, i * 4 + 1, none⟩ (.int .u8 z)) lo u0 u1 u2 ⟨s.tr, s.sw, s.lk.set i (s.lk[i].1, z, s.lk[i].2.2)⟩ := by
 obtain ⟨g, c, e, hlo, hcur, ho⟩ := own_setAt15 (R := LckR) (sz := 4) (k := 1) (x := .int .u8 z) (y := (s.lk[i].1, z, s.lk[i].2.2)) lckF h.lk hi (by decide) (fun c hc => by exact ⟨hc.1, rfl, hc.2.2.1, hc.2.2.2.1, hz⟩)
 exact ⟨g, c, e, hlo, hcur, own_off15 trkF h.tr (grown_setK W g _ _) (by decide) hcur, own_off15 sigF h.sw (grown_setK W g _ _) (by decide) hcur, ho⟩
theorem way_off15 {W W' : World} {lo g : Nat} {u0 u1 u2 : Value} {x : Wy} {cur : Array Value} {T : TypeId} (h : WyOwn W lo u0 u1 u2 x) (hg : W.grownBy W' (some g)) (hc : W.heap[g]? = some (.cells cur T (0, 0))) (h1 : 3 ≠ T) (h2 : 60 ≠ T) : WyOwn W' lo u0 u1 u2 x :=
 ⟨own_off15 intF h.path hg h1 ⟨cur, hc⟩, own_off15 intF h.over hg h1 ⟨cur, hc⟩, own_off15 sigF h.asks hg h2 ⟨cur, hc⟩⟩
/-- Calls laid one by one, the last one lasts. -/
def callF (l : List Ak) : Int → Int := l.foldl (fun f a pt => if pt = a.1 then a.2.1 else f pt) (fun _ => 0)
theorem callF_nil : callF [] = fun _ => 0 := rfl
theorem callF_snoc (l : List Ak) (a : Ak) (pt : Int) : callF (l ++ [a]) pt = if pt = a.1 then a.2.1 else callF l pt := by simp [callF]
theorem callF_take {l : List Ak} {n : Nat} (h : n < l.length) (pt : Int) : callF (l.take (n + 1)) pt = if pt = l[n].1 then l[n].2.1 else callF (l.take n) pt := by
 rw [List.take_succ_eq_append_getElem h, callF_snoc]
theorem callF_in {l : List Ak} (hl : ∀ a ∈ l, 1 ≤ a.2.1 ∧ a.2.1 ≤ 2) : ∀ n pt, n ≤ l.length → 0 ≤ callF (l.take n) pt ∧ callF (l.take n) pt ≤ 2
 | 0, pt, _ => by simp [callF]
 | n + 1, pt, h => by
  rw [callF_take (by omega)]
  have h1 := hl _ (List.getElem_mem (show n < l.length by omega))
  have h2 := callF_in hl n pt (by omega)
  split <;> omega
theorem callF_at {l : List Ak} (ho : OnceA l) : ∀ n, n ≤ l.length → ∀ i (hi : i < l.length), i < n → callF (l.take n) l[i].1 = l[i].2.1
 | 0, _, i, _, h => by omega
 | n + 1, hn, i, hi, h => by
  rw [callF_take (by omega)]
  by_cases e : i = n
  ·subst e; rw [if_pos rfl]
  ·rw [if_neg (ho n (by omega) i (by omega))]
   exact callF_at ho n (by omega) i hi (by omega)
theorem callF_once {l : List Ak} (ho : OnceA l) : ∀ a ∈ l, callF l a.1 = a.2.1 := fun a ha => by
 obtain ⟨i, hi, rfl⟩ := List.getElem_of_mem ha
 have := callF_at ho l.length (Nat.le_refl _) i hi hi
 rwa [List.take_length] at this
/-- How the points are called. -/
def swF (p : Pl) (f : Int → Int) : List Swi := p.pts.map fun x => (x.1, 0, f x.1)
theorem swF_len (p : Pl) (f g : Int → Int) : (swF p f).length = (swF p g).length := by simp [swF]
theorem swF_at {p : Pl} {f : Int → Int} {i : Nat} (h : i < (swF p f).length) : (swF p f)[i] = ((p.pts[i]'(by simpa [swF] using h)).1, 0, f (p.pts[i]'(by simpa [swF] using h)).1) := by simp [swF]
theorem setS_sw (p : Pl) (i : Nat) (f : Int → Int) : setS p i f = ⟨(setS p i fun _ => 0).tr, swF p f, (setS p i fun _ => 0).lk⟩ := rfl
end Go.Proofs.Ytemmgmjhomgbbaa
