/-
  Records that are put one behind the other, as mathematics; and numbers in memory of the call's own, set one by one.
  Conditions: none.
-/
import Derived.Test.YtdjoflhcagfmiaaMFind
import Derived.Test.YtdjoflhcagfmiaaMDisk
set_option linter.unusedVariables false
set_option linter.unusedSimpArgs false
set_option maxRecDepth 100000
namespace Go.Proofs.Ytdjoflhcagfmiaa
open Go.RowKit

theorem viewL_nil (ss : List Bs) : viewL ss [] = ss := rfl
/-- Records were put and synced, each of the generation behind the one ahead. -/
structure Turns (ss : List Bs) (l : List Rc) : Prop where
  may : May ss []
  gens : ∀ (i : Nat) (r : Rc), l[i]? = some r → r.1 = i + 1
  heads : ∀ s ∈ ss, headG s ≤ l.length ∧ tailG s ≤ l.length
  one : halfL ss (slotN l.length) = l.getLast?.toList
  two : halfL ss (16 - slotN l.length) = l.dropLast.getLast?.toList
theorem zeroSec : headG (List.replicate 128 0) = 0 ∧ tailG (List.replicate 128 0) = 0 := by decide +kernel
theorem turns_new : Turns newD [] where
  may := may_new
  gens := fun i r h => by simp at h
  heads := fun s hs => by
    have h : s = List.replicate 128 0 := (List.mem_replicate.1 hs).2
    rw [h, zeroSec.1, zeroSec.2]; exact ⟨Nat.le_refl _, Nat.le_refl _⟩
  one := halfNew 0 (.inl rfl)
  two := halfNew 16 (.inr rfl)
theorem mostL_le : ∀ (S : List Bs) (m k : Nat), m ≤ k → (∀ s ∈ S, headG s ≤ k ∧ tailG s ≤ k) → mostL m S ≤ k
  | [], m, k, h, _ => h
  | s :: S, m, k, h, hs => mostL_le S _ k (by have := hs s (by simp); show max (max m (headG s)) (tailG s) ≤ k; omega) (fun x hx => hs x (by simp [hx]))
theorem turns_next {ss : List Bs} {l : List Rc} (h : Turns ss l) : nextN (viewL ss []) l.length = l.length + 1 := by
  have h1 : mostL l.length (otherS (viewL ss []) l.length) = l.length := by
    refine Nat.le_antisymm (mostL_le _ _ _ (Nat.le_refl _) fun s hs => h.heads s ?_) (mostL_ge _ _)
    exact List.mem_of_mem_drop (List.mem_of_mem_take hs)
  rw [nextN, h1, if_neg (by omega)]
theorem secR_head {g : Nat} (hg : g < 4294967296) (b : Bs) (i : Nat) : headG (secR g b i) = g := by rw [headG, secR, secP_head, leN_le _ _ (by omega)]
theorem secR_tail {g : Nat} (hg : g < 4294967296) (b : Bs) (i : Nat) : tailG (secR g b i) = g := by rw [tailG, secR, secP_tail (pieceB_le _ _), leN_le _ _ (by omega)]
theorem slot_next (k : Nat) : 16 - slotN (k + 1) = slotN k ∧ slotN (k + 1) = 16 - slotN k := by unfold slotN; omega
theorem turns_room {t : Bs} (h : t.length ≤ 1882) : ([] : List Wr).length + cntR t ≤ 256 := by have := cntR_le h; simp; omega
theorem turns_step {ss : List Bs} {l : List Rc} {t : Bs} (h : Turns ss l) (hok : okR (l.length + 1) t) : Turns (viewL ss (putWs (l.length + 1) t)) (l ++ [(l.length + 1, t)]) := by
  have hr := turns_room hok.2.2
  have hm := put_may (g := l.length + 1) h.may hok.2.2 hr
  rw [List.nil_append] at hm
  refine ⟨viewL_may hm, fun i r hi => ?_, fun s hs => ?_, ?_, ?_⟩
  · rcases Nat.lt_or_ge i l.length with hlt | hge
    · rw [List.getElem?_append_left hlt] at hi
      exact h.gens i r hi
    · have hl := (List.getElem?_eq_some_iff.1 hi).1
      rw [List.length_append, List.length_singleton] at hl
      have e : i = l.length := by omega
      subst e
      rw [List.getElem?_append_right (by omega), Nat.sub_self] at hi
      cases hi
      rfl
  · obtain ⟨j, hj, rfl⟩ := List.mem_iff_getElem.1 hs
    have hj32 : j < 32 := by rw [(viewL_may hm).n] at hj; exact hj
    have hv := put_view (g := l.length + 1) h.may hok.2.2 hr j hj32
    rw [List.nil_append, List.getElem?_eq_getElem hj] at hv
    rw [List.length_append, List.length_singleton]
    split at hv
    · rw [Option.some.inj hv, secR_head hok.2.1, secR_tail hok.2.1]
      exact ⟨Nat.le_refl _, Nat.le_refl _⟩
    · rw [viewL_nil] at hv
      have := h.heads _ (List.mem_of_getElem? hv.symm)
      omega
  · have := put_whole h.may hok hr
    rw [List.nil_append] at this
    rw [List.length_append, List.length_singleton, this]
    simp
  · have := put_otherL h.may hok hr
    rw [List.nil_append, viewL_nil] at this
    rw [List.length_append, List.length_singleton, this, (slot_next _).1, h.one]
    simp
/-- What is found behind a step. -/
theorem turns_found {ss : List Bs} {l : List Rc} {x : Rc} (h : Turns ss (l ++ [x])) : findR ss [] = x :: l.getLast?.toList := by
  rw [findR_may h.may, viewL_nil, findL]
  have h1 := h.one
  have h2 := h.two
  have hg : x.1 = l.length + 1 := h.gens l.length x (by simp)
  have hl : (l ++ [x]).length = l.length + 1 := by simp
  rw [hl] at h1 h2
  have e1 : (l ++ [x]).getLast?.toList = [x] := by simp
  have e2 : (l ++ [x]).dropLast.getLast?.toList = l.getLast?.toList := by simp
  rw [e1] at h1
  rw [e2] at h2
  have hy : ∀ y, l.getLast? = some y → y.1 < x.1 := fun y hy => by
    rw [List.getLast?_eq_getElem?] at hy
    have hlt := (List.getElem?_eq_some_iff.1 hy).1
    have := h.gens (l.length - 1) y (by rw [List.getElem?_append_left (by omega)]; exact hy)
    omega
  cases hq : l.getLast? with
  | none =>
    rw [hq] at h2
    rcases slotN_cases (l.length + 1) with e | e
    · rw [e] at h1 h2
      rw [h1, show halfL ss 16 = [] from h2]; rfl
    · rw [e] at h1 h2
      rw [h1, show halfL ss 0 = [] from h2]; rfl
  | some y =>
    rw [hq] at h2
    have hlt := hy y hq
    rcases slotN_cases (l.length + 1) with e | e
    · rw [e] at h1 h2
      rw [h1, show halfL ss 16 = [y] from h2]
      show (if x.1 < y.1 then [y, x] else [x, y]) = _
      rw [if_neg (by omega)]; rfl
    · rw [e] at h1 h2
      rw [h1, show halfL ss 0 = [y] from h2]
      show (if y.1 < x.1 then [x, y] else [y, x]) = _
      rw [if_pos hlt]; rfl
/-- A crash of the next record keeps the last one. -/
theorem turns_crash {ss : List Bs} {l : List Rc} {t : Bs} (h : Turns ss l) (hok : okR (l.length + 1) t) (ks : List Nat) {y : Rc} (hy : l.getLast? = some y) : y ∈ findR (comes ss (putWs (l.length + 1) t) ks) [] := by
  have hr := turns_room hok.2.2
  have hm := put_may (g := l.length + 1) h.may hok.2.2 hr
  rw [List.nil_append] at hm
  have hc := may_comes hm ks
  rw [findR_may hc, viewL_nil, find_mem]
  have hh : halfL (comes ss (putWs (l.length + 1) t) ks) (slotN l.length) = halfL ss (slotN l.length) := by
    rw [halfL_def, halfL_def]
    have hs : slotS (comes ss (putWs (l.length + 1) t) ks) (slotN l.length) = slotS ss (slotN l.length) := by
      refine slotS_eq fun i hi => ?_
      have h16 := cntR_le hok.2.2
      rw [comes, layAll_at]
      cases hg : ss[slotN l.length + i]? with
      | none => rfl
      | some s =>
        rw [Option.map_some, seeAll_none]
        intro p hp he
        obtain ⟨j, hj, hk, rfl⟩ := pieces_mem hp
        exfalso
        have hj2 : j < cntR t := by rw [putWs_length] at hj; exact hj
        have hw : (putWs (l.length + 1) t)[j] = wrR (l.length + 1) t j := Option.some.inj ((List.getElem?_eq_getElem hj).symm.trans (putWs_at hj2))
        rw [hw] at he
        have e1 : (wrR (l.length + 1) t j).1.toNat = slotN (l.length + 1) + j := by show ((slotN (l.length + 1) + j : Nat) : Int).toNat = _; omega
        rw [e1] at he
        have := slot_next l.length
        rcases slotN_cases l.length with c | c <;> omega
    rw [hs]
  rw [h.one, hy] at hh
  rcases slotN_cases l.length with e | e
  · rw [e] at hh; exact .inl (by rw [hh]; simp)
  · rw [e] at hh; exact .inr (by rw [hh]; simp)

theorem putE_fits {ss : List Bs} {g : Nat} {t : Bs} (h : May ss []) (hg : 1 ≤ g) (ht : t.length ≤ 1882) : putE ss [] g t = 0 ∧ putS ss [] g t = ss ∧ putW ss [] g t = putWs g t := by
  have hE : putE ss [] g t = 0 := by
    rw [putE, mayB_iff.2 h, if_pos rfl, if_neg (by omega), if_neg (by omega), if_neg (by have := cntR_le ht; simp; omega)]
  exact ⟨hE, by rw [putS, if_pos hE], by rw [putW, if_pos hE]; rfl⟩
theorem putE_long {ss : List Bs} {g : Nat} {t : Bs} (h : May ss []) (hg : 1 ≤ g) (ht : 1882 < t.length) : putE ss [] g t = 3 := by
  rw [putE, mayB_iff.2 h, if_pos rfl, if_neg (by omega), if_pos ht]
theorem last_at {l : List Rc} {k : Nat} (h : l.length = k + 1) (hk : k < l.length) : l.getLast? = some l[k] := by
  rw [List.getLast?_eq_getElem?, h, Nat.add_sub_cancel, List.getElem?_eq_getElem hk]
def i64d (k : Int) : Value := .int .i64 k
def noughts (n : Nat) : List Int := List.replicate n 0
/-- Numbers in a block. -/
def NumsAt (W : World) (b : Nat) (zs : List Int) : Prop := ∃ cur : Array Value, W.heap[b]? = some (.cells cur 3 (0, 0)) ∧ cur.toList = zs.map i64d
theorem madeNoughts (n : Nat) : (madeCells (Value.int IntKind.i64 0).cells (n * 1)).toList = (noughts n).map i64d := by
  rw [noughts, List.map_replicate]
  apply List.ext_getElem?
  intro j
  simp only [madeCells, Array.toList_map, Array.toList_range, List.getElem?_map, List.getElem?_replicate, Nat.mul_one]
  by_cases h : j < n
  · rw [List.getElem?_range h, if_pos h]
    simp [Value.cells, i64d, Nat.mod_one]
  · rw [List.getElem?_eq_none (by simp; omega), if_neg h]; rfl
theorem infoInt6 : (Try.prog.info? 3).map (fun i => (i.zero, i.size, i.bytes)) = some (some (.int .i64 0), 1, 8) := by kernel_rfl
theorem makeNums (w : World) (n : Nat) (hn : n ≤ 256) : ∃ o : Obj, (Instr.makeSlice 64 (.int .i64 (n : Int)) (.int .i64 (n : Int))).run Try.prog w = .ok (.slice (some ⟨w.heap.size, 0, none⟩) n n) (w.alloc o) ∧ NumsAt (w.alloc o) w.heap.size (noughts n) := by
  obtain ⟨i0, hi, hz0, hz1, hz2⟩ := info_parts infoInt6
  have h := run_make (P := Try.prog) w 64 3 i0 _ Try.underlying64 hi hz0 .i64 .i64 n n (by omega) (by omega) (by rw [hz2]; omega) (by omega)
  exact ⟨_, h, _, heap_alloc_self _ _, by rw [hz1, madeNoughts, Int.toNat_natCast]⟩
theorem NumsAt.cell {W : World} {b : Nat} {zs : List Int} (h : NumsAt W b zs) {j : Nat} (hj : j < zs.length) : W.cell? ⟨b, j, none⟩ = some (.int .i64 zs[j]) := by
  obtain ⟨cur, hb, hc⟩ := h
  rw [cell_of_row _ _ _ _ _ _ hb]
  have e : cur.toList[j]? = some (.int .i64 zs[j]) := by rw [hc, List.getElem?_map, List.getElem?_eq_getElem hj]; rfl
  simpa using e
theorem NumsAt.nums {W : World} {b : Nat} {zs : List Int} (h : NumsAt W b zs) (hm : zs.length ≤ maxLen) : NumsIn W W.heap.size (.slice (some ⟨b, 0, none⟩) zs.length zs.length) zs := by
  refine ⟨_, _, rfl, Nat.le_refl _, hm, fun e => (by cases e), fun _ => ⟨b, 0, rfl, ?_, fun j hj => ?_⟩⟩
  · obtain ⟨cur, hb, _⟩ := h; exact heap_lt hb
  · rw [Nat.zero_add]; exact h.cell hj
theorem NumsAt.frozen {W : World} {b : Nat} {zs : List Int} (h : NumsAt W b zs) (j : Nat) : W.frozen? ⟨b, j, none⟩ = false := by
  obtain ⟨cur, hb, _⟩ := h
  exact frozen2_of hb j
theorem NumsAt.set {W : World} {b : Nat} {zs : List Int} (h : NumsAt W b zs) (j : Nat) (z : Int) : NumsAt (W.setCell ⟨b, j, none⟩ (.int .i64 z)) b (zs.set j z) := by
  obtain ⟨cur, hb, hc⟩ := h
  refine ⟨cur.setIfInBounds j (.int .i64 z), ?_, ?_⟩
  · simp only [World.setCell, Array.getElem?_modify, if_true, hb, Option.map_some]
    rfl
  · rw [Array.toList_setIfInBounds, hc, List.map_set]; rfl
end Go.Proofs.Ytdjoflhcagfmiaa
