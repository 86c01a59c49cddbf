/-
 Each point is asked for one lie: the mathematics.
 Conditions: none.
-/
import Derived.Test.YtccbdpeicemnjaaTGSndM
import Derived.Test.YtccbdpeicemnjaaTWayGoesM
set_option linter.unusedVariables false
set_option linter.unusedSimpArgs false
namespace Go.Proofs.Ytccbdpeicemnjaa
open Go.RowKit

/-- The lie for which a point is asked, of a list; 0: it isn't. -/
def lieA (l : List Ak) (pt : Int) : Int := match l.find? (fun k => decide (k.1 = pt)) with
 | some k => k.2.1
 | none => 0
theorem lieA_mem {l : List Ak} (h : OnceA l) {k : Ak} (hk : k ∈ l) : lieA l k.1 = k.2.1 := by
 rw [lieA]
 cases hf : l.find? (fun m => decide (m.1 = k.1)) with
 | none => exact absurd (List.find?_eq_none.1 hf k hk) (by simp)
 | some m =>
  have h1 : m.1 = k.1 := by simpa using List.find?_some hf
  obtain ⟨i, hi, hie⟩ := List.getElem_of_mem (List.mem_of_find?_eq_some hf)
  obtain ⟨j, hj, hje⟩ := List.getElem_of_mem hk
  have e : m = k := by
   rcases Nat.lt_trichotomy i j with h2 | h2 | h2
   ·exact absurd (by rw [hie, hje]; exact h1) (h j hj i h2)
   ·subst h2; exact hie.symm.trans hje
   ·exact absurd (by rw [hie, hje]; exact h1.symm) (h i hi j h2)
  show m.2.1 = k.2.1
  rw [e]
theorem lieA_none {l : List Ak} {pt : Int} (h : ∀ k ∈ l, k.1 ≠ pt) : lieA l pt = 0 := by
 rw [lieA, List.find?_eq_none.2 (fun k hk => by simpa using h k hk)]
/-- One more that is asked, of a point that wasn't. -/
theorem lieA_snoc {l : List Ak} {k : Ak} (h : ∀ m ∈ l, m.1 ≠ k.1) (pt : Int) : lieA (l ++ [k]) pt = if pt = k.1 then k.2.1 else lieA l pt := by
 rw [lieA, List.find?_append]
 by_cases hp : pt = k.1
 ·rw [if_pos hp, List.find?_eq_none.2 (fun m hm => by simpa [hp] using h m hm)]
  simp [hp]
 ·rw [if_neg hp, lieA]
  cases hf : l.find? (fun m => decide (m.1 = pt)) with
  | some m => rfl
  | none => simp [List.find?, Ne.symm hp]
theorem once_take {l : List Ak} (h : OnceA l) {i : Nat} (hi : i < l.length) : ∀ m ∈ l.take i, m.1 ≠ l[i].1 := fun m hm => by
 obtain ⟨k, hk, rfl⟩ := List.getElem_of_mem hm
 rw [List.length_take] at hk
 rw [List.getElem_take]
 exact h i hi k (by omega)
/-- What a section asks of its point is what is asked of it. -/
theorem sound_lie {p : Pl} {r : Rt} (h : Sound p r) {a : Nat} (ha : a < (allR r).length) {k : Ak} (hk : askN p r a = some k) : lieA (wayR p r).asks k.1 = k.2.1 := by
 refine lieA_mem h.once (List.mem_append_left _ ?_)
 rw [asksL]
 exact List.mem_filterMap.2 ⟨a, List.mem_range.2 ha, hk⟩
end Go.Proofs.Ytccbdpeicemnjaa
