/-
  Sections that may be, told by their members; without one of them; with greater numbers.
  Conditions: none.
-/
import Derived.Test.YtnhglgpmmipjaaaTrkEq
set_option linter.unusedVariables false
set_option linter.unusedSimpArgs false
set_option maxRecDepth 100000
namespace Go.Proofs.Ytnhglgpmmipjaaa
open Go.RowKit

def Rise (l : List Sec) : Prop := l.Pairwise fun a b => a.1 < b.1 ∧ ¬ (b.2.1 ≠ 0 ∧ a.2.1 = b.2.1)
theorem at_of_mem {l : List Sec} (h : Rise l) {t : Sec} (ht : t ∈ l) : ∃ (i : Nat) (hi : i < l.length), atS l t.1 = (i : Int) ∧ l[i] = t := by
  obtain ⟨i, hi, rfl⟩ := List.getElem_of_mem ht
  refine ⟨i, hi, ?_, rfl⟩
  rw [atS, find_some hi rfl (fun j hj => by have := (List.pairwise_iff_getElem.1 h j i (by omega) hi hj).1; omega)]
theorem at_none {l : List Sec} {id : Int} (h : ∀ t ∈ l, t.1 ≠ id) : atS l id = -1 := by
  rcases atS_cases l id with h1 | ⟨i, hi, -, he⟩
  · exact h1
  · exact absurd he (h _ (List.getElem_mem hi))
/-- An end that joins another one. -/
def Joins (l : List Sec) (s : Sec) (k : Nat) (j : Jn) : Prop := ∃ t ∈ l, t.1 = j.1 ∧ 0 ≤ j.2 ∧ j.2 < t.2.2.length ∧ ¬ (j.1 = s.1 ∧ j.2 = (k : Int)) ∧ t.2.2.getD j.2.toNat (0, 0) = (s.1, (k : Int))
theorem joined_iff {l : List Sec} (h : Rise l) (s : Sec) (k : Nat) : joinedB l s k = true ↔ s.2.2.getD k (0, 0) = (0, 0) ∨ Joins l s k (s.2.2.getD k (0, 0)) := by
  rw [joinedB]
  generalize s.2.2.getD k (0, 0) = j
  obtain ⟨x, y⟩ := j
  dsimp only
  by_cases h0 : x = 0 ∧ y = 0
  · rw [if_pos h0]
    exact ⟨fun _ => .inl (by rw [h0.1, h0.2]), fun _ => rfl⟩
  · rw [if_neg h0]
    have hz : ¬ ((x, y) : Jn) = (0, 0) := fun e => by cases e; exact h0 ⟨rfl, rfl⟩
    constructor
    · intro hj
      split at hj
      · simp at hj
      · rename_i h3
        rcases atS_cases l x with hx | ⟨i, hi, hx, hid⟩
        · exact absurd (.inl (by omega)) h3
        · rw [hx, Int.toNat_natCast] at hj h3
          have hg : l.getD i (0, 0, []) = l[i] := by rw [List.getD_eq_getElem?_getD, List.getElem?_eq_getElem hi]; rfl
          rw [hg] at hj h3
          exact .inr ⟨l[i], List.getElem_mem hi, hid, by dsimp only; omega, by dsimp only; omega, fun e => h3 (.inr (.inr (.inr e))), of_decide_eq_true hj⟩
    · rintro (e | ⟨t, ht, h1, h2, h3, h4, h5⟩)
      · exact absurd e hz
      · dsimp only at h1 h2 h3 h4 h5
        obtain ⟨i, hi, ha, rfl⟩ := at_of_mem h ht
        rw [h1] at ha
        have hg : l.getD i (0, 0, []) = l[i] := by rw [List.getD_eq_getElem?_getD, List.getElem?_eq_getElem hi]; rfl
        rw [ha, Int.toNat_natCast, hg, if_neg (by omega)]
        exact decide_eq_true h5
theorem may_parts {l : List Sec} (h : TMay l) : l.length ≤ 16 ∧ (∀ s ∈ l, 1 ≤ s.1 ∧ s.1 ≤ 99 ∧ shapedB s = true) ∧ Rise l ∧ ∀ s ∈ l, ∀ k, k < s.2.2.length → s.2.2.getD k (0, 0) = (0, 0) ∨ Joins l s k (s.2.2.getD k (0, 0)) := by
  have hr : Rise l := List.pairwise_iff_getElem.2 (fun j i hj hi hlt => h.k i j hlt hi)
  refine ⟨h.n, fun s hs => ?_, hr, fun s hs k hk => ?_⟩
  · obtain ⟨i, hi, rfl⟩ := List.getElem_of_mem hs
    exact h.s i hi
  · obtain ⟨i, hi, rfl⟩ := List.getElem_of_mem hs
    exact (joined_iff hr _ k).1 (h.e i k hi hk)
theorem may_of {l : List Sec} (h1 : l.length ≤ 16) (h2 : ∀ s ∈ l, 1 ≤ s.1 ∧ s.1 ≤ 99 ∧ shapedB s = true) (hr : Rise l) (h3 : ∀ s ∈ l, ∀ k, k < s.2.2.length → s.2.2.getD k (0, 0) = (0, 0) ∨ Joins l s k (s.2.2.getD k (0, 0))) : TMay l :=
  ⟨h1, fun i hi => h2 _ (List.getElem_mem hi), fun i j hj hi => List.pairwise_iff_getElem.1 hr j i (by omega) hi hj, fun i k hi hk => (joined_iff hr _ k).2 (h3 _ (List.getElem_mem hi) k hk)⟩
theorem getD_map {f : Jn → Jn} {es : List Jn} {k : Nat} (hk : k < es.length) : (es.map f).getD k (0, 0) = f (es.getD k (0, 0)) := by
  rw [List.getD_eq_getElem?_getD, List.getD_eq_getElem?_getD, List.getElem?_map, List.getElem?_eq_getElem hk]; rfl
theorem shaped_map (f : Jn → Jn) {a b p : Int} {es : List Jn} : shapedB (a, p, es.map f) = shapedB (b, p, es) := by
  simp [shapedB]

/-- What joined a section joins nothing. -/
def wipe (gone : Int) (j : Jn) : Jn := if j.1 = gone then (0, 0) else j
def wiped (gone : Int) (s : Sec) : Sec := (s.1, s.2.1, s.2.2.map (wipe gone))
def fewer (gone : Int) : List Sec → List Sec
  | [] => []
  | s :: l => if s.1 = gone then fewer gone l else wiped gone s :: fewer gone l
theorem fewer_append (gone : Int) (l : List Sec) (s : Sec) : fewer gone (l ++ [s]) = if s.1 = gone then fewer gone l else fewer gone l ++ [wiped gone s] := by
  induction l with
  | nil => simp only [List.nil_append, fewer]
  | cons t l ih => simp only [List.cons_append, fewer, ih]; split <;> split <;> rfl
theorem fewer_mem {gone : Int} {l : List Sec} {t : Sec} : t ∈ fewer gone l ↔ ∃ s ∈ l, s.1 ≠ gone ∧ t = wiped gone s := by
  induction l with
  | nil => simp [fewer]
  | cons s l ih =>
    rw [fewer]
    split
    · rename_i h
      rw [ih]
      constructor
      · rintro ⟨u, hu, h1, h2⟩
        exact ⟨u, List.mem_cons_of_mem _ hu, h1, h2⟩
      · rintro ⟨u, hu, h1, h2⟩
        rcases List.mem_cons.1 hu with rfl | hu
        · exact absurd h h1
        · exact ⟨u, hu, h1, h2⟩
    · rename_i h
      rw [List.mem_cons, ih]
      constructor
      · rintro (rfl | ⟨u, hu, h1, h2⟩)
        · exact ⟨s, List.mem_cons_self, h, rfl⟩
        · exact ⟨u, List.mem_cons_of_mem _ hu, h1, h2⟩
      · rintro ⟨u, hu, h1, h2⟩
        rcases List.mem_cons.1 hu with rfl | hu
        · exact .inl h2
        · exact .inr ⟨u, hu, h1, h2⟩
theorem fewer_length (gone : Int) : ∀ l : List Sec, (fewer gone l).length ≤ l.length
  | [] => Nat.le_refl _
  | s :: l => by have := fewer_length gone l; rw [fewer]; split <;> simp <;> omega
theorem fewer_rise {gone : Int} : ∀ {l : List Sec}, Rise l → Rise (fewer gone l)
  | [], h => List.Pairwise.nil
  | s :: l, h => by
    have h' := List.pairwise_cons.1 h
    rw [fewer]
    split
    · exact fewer_rise h'.2
    · refine List.pairwise_cons.2 ⟨fun t ht => ?_, fewer_rise h'.2⟩
      obtain ⟨u, hu, -, rfl⟩ := fewer_mem.1 ht
      exact h'.1 u hu
theorem fewer_may {l : List Sec} (h : TMay l) (gone : Int) : TMay (fewer gone l) := by
  obtain ⟨h1, h2, h3, h4⟩ := may_parts h
  refine may_of (Nat.le_trans (fewer_length gone l) h1) (fun t ht => ?_) (fewer_rise h3) (fun t ht k hk => ?_)
  · obtain ⟨s, hs, -, rfl⟩ := fewer_mem.1 ht
    obtain ⟨a, b, c⟩ := h2 s hs
    exact ⟨a, b, by rw [wiped, shaped_map (b := s.1)]; exact c⟩
  · obtain ⟨s, hs, hg, rfl⟩ := fewer_mem.1 ht
    have hk' : k < s.2.2.length := by simpa [wiped] using hk
    have he : (wiped gone s).2.2.getD k (0, 0) = wipe gone (s.2.2.getD k (0, 0)) := getD_map hk'
    rw [he]
    rcases h4 s hs k hk' with h0 | ⟨u, hu, u1, u2, u3, u4, u5⟩
    · left; rw [h0, wipe]; split <;> rfl
    · by_cases hz : (s.2.2.getD k (0, 0)).1 = gone
      · left; rw [wipe, if_pos hz]
      · right
        rw [wipe, if_neg hz]
        refine ⟨wiped gone u, fewer_mem.2 ⟨u, hu, by rw [u1]; exact hz, rfl⟩, u1, u2, by simpa [wiped] using u3, u4, ?_⟩
        have hm : (s.2.2.getD k (0, 0)).2.toNat < u.2.2.length := by omega
        have := getD_map (f := wipe gone) hm
        rw [u5] at this
        exact this.trans (by rw [wipe, if_neg hg]; rfl)
theorem fewer_check {l : List Sec} (h : TMay l) (gone : Int) : chkT (fewer gone l) = 0 ∧ findE7 (fewer gone l) gone = 6 := by
  have hm := fewer_may h gone
  refine ⟨by rw [chkT, mayT_true hm]; rfl, ?_⟩
  rw [findE_of hm, at_none (fun t ht => by obtain ⟨s, hs, hg, rfl⟩ := fewer_mem.1 ht; exact hg)]
  rfl
end Go.Proofs.Ytnhglgpmmipjaaa
