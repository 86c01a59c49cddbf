/-
  What is found once a record was put, as mathematics.
  Conditions: none.
-/
import Derived.Test.YtdjoflhcagfmiaaSlotDoPut
import Derived.Test.YtdjoflhcagfmiaaSlotNext
set_option linter.unusedVariables false
set_option linter.unusedSimpArgs false
set_option maxRecDepth 100000
namespace Go.Proofs.Ytdjoflhcagfmiaa

/-- All sectors as they are seen. -/
def viewL (ss : List Bs) (ws : List Wr) : List Bs := comes ss ws (all128 ws)
theorem viewL_may {ss : List Bs} {ws : List Wr} (h : May ss ws) : May (viewL ss ws) [] := may_comes h _
theorem viewL_snoc {ss : List Bs} {ws : List Wr} {x : Wr} (h : May ss ws) (hx : okW x) : viewL ss (ws ++ [x]) = (viewL ss ws).set x.1.toNat x.2 := by
  have h1 : all128 (ws ++ [x]) = all128 ws ++ [128] := by simp [all128, List.replicate_succ']
  have h2 : piecesOf (ws ++ [x]) (all128 (ws ++ [x])) = piecesOf ws (all128 ws) ++ [(x.1.toNat, x.2)] := by
    rw [h1, piecesOf_append _ _ _ _ (by simp [all128])]
    simp [piecesOf, List.take_of_length_le (by rw [hx.2.2]; exact Nat.le_refl _ : x.2.length ≤ 128)]
  have hlt : x.1.toNat < (viewL ss ws).length := by rw [(viewL_may h).n]; have := hx.1; have := hx.2.1; omega
  rw [viewL, comes, h2, layAll_snoc]
  show (viewL ss ws).modify _ _ = _
  rw [modify_set _ _ _ hlt, lay_whole (by rw [(viewL_may h).s _ (List.getElem_mem hlt), hx.2.2]; exact Nat.le_refl _)]
theorem view_part {ss : List Bs} {ws : List Wr} {g : Nat} {t : Bs} (h : May ss ws) (ht : t.length ≤ 1882) : ∀ (i : Nat), ws.length + i ≤ 256 → i ≤ cntR t → ∀ j, j < 32 →
    (viewL ss (ws ++ (putWs g t).take i))[j]? = if slotN g ≤ j ∧ j < slotN g + i then some (secR g (bodyR g t) (j - slotN g)) else (viewL ss ws)[j]?
  | 0, _, _, j, _ => by rw [List.take_zero, List.append_nil, if_neg (by omega)]
  | i + 1, h1, h2, j, hj => by
    have ih := view_part (g := g) h ht i (by omega) (by omega) j hj
    have h16 := cntR_le ht
    have hs := slotN_le g
    have hm := may_part (g := g) h ht (i := i) (by omega)
    rw [part_snoc ws (by omega), viewL_snoc hm (wrR_ok (by omega)), List.getElem?_set]
    have hN : (wrR g t i).1.toNat = slotN g + i := by show ((slotN g + i : Nat) : Int).toNat = _; omega
    have hS : (wrR g t i).2 = secR g (bodyR g t) i := rfl
    rw [hN, hS, (viewL_may hm).n]
    by_cases e : slotN g + i = j
    · subst e
      rw [if_pos rfl, if_pos hj, if_pos (by omega), show slotN g + i - slotN g = i from by omega]
    · rw [if_neg e, ih]
      by_cases e2 : slotN g ≤ j ∧ j < slotN g + i
      · rw [if_pos e2, if_pos (by omega)]
      · rw [if_neg e2, if_neg (by omega)]
theorem put_view {ss : List Bs} {ws : List Wr} {g : Nat} {t : Bs} (h : May ss ws) (ht : t.length ≤ 1882) (hr : ws.length + cntR t ≤ 256) (j : Nat) (hj : j < 32) :
    (viewL ss (ws ++ putWs g t))[j]? = if slotN g ≤ j ∧ j < slotN g + cntR t then some (secR g (bodyR g t) (j - slotN g)) else (viewL ss ws)[j]? := by
  have := view_part (g := g) h ht (cntR t) hr (Nat.le_refl _) j hj
  rwa [List.take_of_length_le (by rw [putWs_length]; exact Nat.le_refl _)] at this
theorem put_may {ss : List Bs} {ws : List Wr} {g : Nat} {t : Bs} (h : May ss ws) (ht : t.length ≤ 1882) (hr : ws.length + cntR t ≤ 256) : May ss (ws ++ putWs g t) := by
  have := may_part (g := g) h ht hr
  rwa [List.take_of_length_le (by rw [putWs_length]; exact Nat.le_refl _)] at this

/-- One slot's sectors. -/
def slotS (V : List Bs) (k : Nat) : List Bs := (V.drop k).take 16
theorem slotS_at (V : List Bs) (k i : Nat) (hi : i < 16) : (slotS V k)[i]? = V[k + i]? := by rw [slotS, List.getElem?_take_of_lt hi, List.getElem?_drop]
theorem slotS_length {V : List Bs} (h : V.length = 32) {k : Nat} (hk : k ≤ 16) : (slotS V k).length = 16 := by rw [slotS, List.length_take, List.length_drop]; omega
theorem slotS_128 {V : List Bs} (h : ∀ s ∈ V, s.length = 128) {k : Nat} : ∀ s ∈ slotS V k, s.length = 128 := fun s hs => h s (List.mem_of_mem_drop (List.mem_of_mem_take hs))
theorem slotS_eq {V V' : List Bs} {k : Nat} (h : ∀ i, i < 16 → V[k + i]? = V'[k + i]?) : slotS V k = slotS V' k := by
  apply List.ext_getElem?
  intro i
  by_cases hi : i < 16
  · rw [slotS_at _ _ _ hi, slotS_at _ _ _ hi, h i hi]
  · rw [List.getElem?_eq_none (by rw [slotS, List.length_take]; omega), List.getElem?_eq_none (by rw [slotS, List.length_take]; omega)]
theorem halfL_def (V : List Bs) (k : Nat) : halfL V k = (wholeR (slotS V k) k).toList := rfl
theorem half_mem {V : List Bs} (h : May V []) {k : Nat} (hk : k ≤ 16) {r : Rc} : r ∈ halfL V k ↔ IsWhole (slotS V k) k r.1 r.2 := by
  obtain ⟨g, t⟩ := r
  rw [halfL_def, Option.mem_toList, wholeR_iff (slotS_length h.n hk) (slotS_128 h.s)]
theorem half_one {V : List Bs} (h : May V []) {k : Nat} (hk : k ≤ 16) {g : Nat} {t : Bs} (hw : IsWhole (slotS V k) k g t) : halfL V k = [(g, t)] := by
  rw [halfL_def, (wholeR_iff (slotS_length h.n hk) (slotS_128 h.s)).2 hw]; rfl
theorem put_whole {ss : List Bs} {ws : List Wr} {g : Nat} {t : Bs} (h : May ss ws) (hok : okR g t) (hr : ws.length + cntR t ≤ 256) : halfL (viewL ss (ws ++ putWs g t)) (slotN g) = [(g, t)] := by
  have hm := put_may (g := g) h hok.2.2 hr
  have h16 := cntR_le hok.2.2
  have hs := slotN_le g
  refine half_one (viewL_may hm) hs ⟨hok, rfl, ?_⟩
  refine taken_eq (by rw [slotS_length (viewL_may hm).n hs]; omega) (fun i hi => ?_)
  rw [secsR_at hi, slotS_at _ _ _ (by omega), put_view h hok.2.2 hr _ (by omega), if_pos (by omega), show slotN g + i - slotN g = i from by omega]
theorem put_other {ss : List Bs} {ws : List Wr} {g : Nat} {t : Bs} (h : May ss ws) (hok : okR g t) (hr : ws.length + cntR t ≤ 256) : slotS (viewL ss (ws ++ putWs g t)) (16 - slotN g) = slotS (viewL ss ws) (16 - slotN g) := by
  have h16 := cntR_le hok.2.2
  refine slotS_eq fun i hi => ?_
  rcases slotN_cases g with hc | hc
  · rw [put_view h hok.2.2 hr _ (by omega), if_neg (by omega)]
  · rw [put_view h hok.2.2 hr _ (by omega), if_neg (by omega)]
theorem put_otherL {ss : List Bs} {ws : List Wr} {g : Nat} {t : Bs} (h : May ss ws) (hok : okR g t) (hr : ws.length + cntR t ≤ 256) : halfL (viewL ss (ws ++ putWs g t)) (16 - slotN g) = halfL (viewL ss ws) (16 - slotN g) := by
  rw [halfL_def, halfL_def, put_other h hok hr]

theorem sortL_mem {l : List Rc} {r : Rc} : r ∈ sortL l ↔ r ∈ l := by
  match l with
  | [] => exact Iff.rfl
  | [x] => exact Iff.rfl
  | [x, y] =>
    show r ∈ (if x.1 < y.1 then [y, x] else [x, y]) ↔ _
    split
    · simp [or_comm]
    · exact Iff.rfl
  | x :: y :: z :: l => exact Iff.rfl
theorem sortL_length (l : List Rc) : (sortL l).length = l.length := by
  match l with
  | [] => rfl
  | [x] => rfl
  | [x, y] => show (if x.1 < y.1 then [y, x] else [x, y]).length = 2; split <;> rfl
  | x :: y :: z :: l => rfl
theorem find_mem {V : List Bs} {r : Rc} : r ∈ findL V ↔ r ∈ halfL V 0 ∨ r ∈ halfL V 16 := by rw [findL, sortL_mem, List.mem_append]
theorem find_length (V : List Bs) : (findL V).length ≤ 2 := by
  rw [findL, sortL_length, List.length_append]
  have := halfL_le V 0
  have := halfL_le V 16
  omega
theorem half_slot {V : List Bs} (h : May V []) {k : Nat} (hk : k ≤ 16) {r : Rc} (hr : r ∈ halfL V k) : slotN r.1 = k := ((half_mem h hk).1 hr).2.1
theorem find_slot {V : List Bs} (h : May V []) {r : Rc} : r ∈ findL V ↔ r ∈ halfL V (slotN r.1) := by
  rw [find_mem]
  constructor
  · rintro (h1 | h1)
    · rw [half_slot h (by omega) h1]; exact h1
    · rw [half_slot h (by omega) h1]; exact h1
  · intro h1
    rcases slotN_cases r.1 with e | e <;> rw [e] at h1
    · exact .inl h1
    · exact .inr h1
theorem findR_may {ss : List Bs} {ws : List Wr} (h : May ss ws) : findR ss ws = findL (viewL ss ws) := by rw [findR, mayB_iff.2 h, if_pos rfl]; rfl
/-- What was put is found; the other slot stays. -/
theorem find_put {ss : List Bs} {ws : List Wr} {g : Nat} {t : Bs} (h : May ss ws) (hok : okR g t) (hr : ws.length + cntR t ≤ 256) {r : Rc} :
    r ∈ findR ss (ws ++ putWs g t) ↔ r = (g, t) ∨ (r ∈ findR ss ws ∧ slotN r.1 ≠ slotN g) := by
  have hm := put_may (g := g) h hok.2.2 hr
  rw [findR_may hm, findR_may h, find_slot (viewL_may hm), find_slot (viewL_may h)]
  have hs := slotN_cases g
  by_cases e : slotN r.1 = slotN g
  · rw [e, put_whole h hok hr]
    simp
  · have e2 : slotN r.1 = 16 - slotN g := by rcases slotN_cases r.1 with h1 | h1 <;> rcases hs with h2 | h2 <;> omega
    rw [e2, put_otherL h hok hr]
    constructor
    · intro h1
      exact .inr ⟨h1, by rw [← e2]; exact e⟩
    · rintro (rfl | h1)
      · exact absurd rfl e
      · exact h1.1
end Go.Proofs.Ytdjoflhcagfmiaa
