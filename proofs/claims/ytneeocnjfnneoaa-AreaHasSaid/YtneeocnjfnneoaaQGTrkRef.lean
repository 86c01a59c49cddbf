/-
 The document's own functions of package track: At, Shaped, Lie, Great.
 Conditions: none.
-/
import Derived.Test.YtneeocnjfnneoaaQGBase
import Derived.Laws.OwnMore
import Derived.Laws.AppendOwn
import Derived.Laws.AppendOwnNone
set_option linter.unusedVariables false
set_option linter.unusedSimpArgs false
set_option maxRecDepth 100000
namespace Go.Proofs.Ytneeocnjfnneoaa
open Go.RowKit

/-- A section's place; -1: there is none. -/
def atS (l : List Sec) (id : Int) : Int := match l.findIdx? (fun s => decide (s.1 = id)) with
 | some i => (i : Int)
 | none => -1
def shapedB (s : Sec) : Bool := if s.2.1 = 0 then decide (s.2.2.length = 2) else decide (1 ≤ s.2.1) && (decide (s.2.1 ≤ 99) && decide (s.2.2.length = 3))
/-- Sections that are not great. -/
def Few (l : List Sec) : Prop := l.length ≤ 40 ∧ ∀ s ∈ l, s.2.2.length ≤ 20
def joinedB (l : List Sec) (s : Sec) (k : Nat) : Bool :=
 if (s.2.2.getD k (0, 0)).1 = 0 ∧ (s.2.2.getD k (0, 0)).2 = 0 then true
 else if atS l (s.2.2.getD k (0, 0)).1 < 0 ∨ (s.2.2.getD k (0, 0)).2 < 0 ∨ ((l.getD (atS l (s.2.2.getD k (0, 0)).1).toNat (0, 0, [])).2.2.length : Int) ≤ (s.2.2.getD k (0, 0)).2 ∨ ((s.2.2.getD k (0, 0)).1 = s.1 ∧ (s.2.2.getD k (0, 0)).2 = (k : Int)) then false
 else decide ((l.getD (atS l (s.2.2.getD k (0, 0)).1).toNat (0, 0, [])).2.2.getD (s.2.2.getD k (0, 0)).2.toNat (0, 0) = (s.1, (k : Int)))
/-- Sections may be. -/
structure TMay (l : List Sec) : Prop where
 n : l.length ≤ 16
 s : ∀ i (h : i < l.length), 1 ≤ l[i].1 ∧ l[i].1 ≤ 99 ∧ shapedB l[i] = true
 k : ∀ i j (hj : j < i) (hi : i < l.length), (l[j]'(by omega)).1 < l[i].1 ∧ ¬ (l[i].2.1 ≠ 0 ∧ (l[j]'(by omega)).2.1 = l[i].2.1)
 e : ∀ i k (hi : i < l.length), k < l[i].2.2.length → joinedB l l[i] k = true

/-- The cells of a list that is read. -/
theorem ListIn.cells {α : Type} {sz : Nat} {R : El α} {W : World} {B n c : Nat} {A : Option Addr} {xs : List α} (hsz : 0 < sz)
  (hfull : ∀ (c : Nat → Option Value) (x : α), R W B c x → ∀ k, k < sz → ∃ v, c k = some v ∧ v.oneCell' = true) (hR : ∀ (c c' : Nat → Option Value) (x : α), (∀ k, k < sz → c k = c' k) → R W B c x → R W B c' x)
  (h : ListIn sz R W B (.slice A n c) xs) :
  ∃ yss : List (List Value), yss.length = xs.length ∧ (∀ ys ∈ yss, ys.length = sz) ∧ (∀ (j : Nat) (ys : List Value) (x : α), yss[j]? = some ys → xs[j]? = some x → R W B (fun k => ys[k]?) x) ∧
   (A = none → n = 0 ∧ c = 0) ∧ n = xs.length ∧ (∀ u ∈ yss.flatten, u.oneCell' = true) ∧ ∀ a, A = some a → ∀ j u, yss.flatten[j]? = some u → W.cell? (a.add j) = some u := by
 obtain ⟨A', cap, e, h1, h2, hn, h3⟩ := h
 cases e
 rcases Nat.eq_zero_or_pos xs.length with h0 | hp
 ·obtain rfl : xs = [] := List.eq_nil_of_length_eq_zero h0
  exact ⟨[], rfl, by simp, fun j ys x h => by simp at h, fun h => ⟨rfl, hn h⟩, rfl, by simp, fun a _ j u h => by simp at h⟩
 obtain ⟨b, off, rfl, hb, hc⟩ := h3 hp
 have each : ∀ j, ∃ ys : List Value, j < xs.length → ys.length = sz ∧ (∀ k, k < sz → ys[k]? = W.cell? ⟨b, off + j * sz + k, none⟩) ∧ ∀ u ∈ ys, u.oneCell' = true := fun j => by
  by_cases hj : j < xs.length
  ·have hf := hfull _ _ (hc j hj)
   have hall : ∀ k, ∃ v : Value, k < sz → W.cell? ⟨b, off + j * sz + k, none⟩ = some v ∧ v.oneCell' = true := fun k => by
    by_cases hk : k < sz
    ·obtain ⟨v, hv⟩ := hf k hk
     exact ⟨v, fun _ => hv⟩
    ·exact ⟨.bool false, fun h => absurd h hk⟩
   obtain ⟨f, hf2⟩ := Classical.axiomOfChoice hall
   refine ⟨(List.range sz).map f, fun _ => ⟨by simp, fun k hk => ?_, fun u hu => ?_⟩⟩
   ·rw [(hf2 k hk).1, List.getElem?_map, List.getElem?_range hk]; rfl
   ·obtain ⟨k, hk, rfl⟩ := List.mem_map.1 hu
    exact (hf2 k (List.mem_range.1 hk)).2
  ·exact ⟨[], fun h => absurd h hj⟩
 obtain ⟨f, hf⟩ := Classical.axiomOfChoice each
 have hs : ∀ ys ∈ (List.range xs.length).map f, ys.length = sz := fun ys hy => by
  obtain ⟨j, hj, rfl⟩ := List.mem_map.1 hy
  exact (hf j (List.mem_range.1 hj)).1
 refine ⟨(List.range xs.length).map f, by simp, hs, fun j ys x hy hx => ?_, (fun h => by cases h), rfl, fun u hu => ?_, fun a ha j u hu => ?_⟩
 ·have hj : j < xs.length := (List.getElem?_eq_some_iff.1 hx).1
  rw [List.getElem?_map, List.getElem?_range hj] at hy
  cases hy
  rw [List.getElem?_eq_getElem hj] at hx
  cases hx
  exact hR _ _ _ (fun k hk => ((hf j hj).2.1 k hk).symm) (hc j hj)
 ·obtain ⟨ys, hy, hu⟩ := List.mem_flatten.1 hu
  obtain ⟨j, hj, rfl⟩ := List.mem_map.1 hy
  exact (hf j (List.mem_range.1 hj)).2.2 u hu
 ·cases ha
  have hlt : j < ((List.range xs.length).map f).flatten.length := (List.getElem?_eq_some_iff.1 hu).1
  rw [flat_length _ hs, List.length_map, List.length_range] at hlt
  have hq : j / sz < xs.length := Nat.div_lt_of_lt_mul (by rw [Nat.mul_comm]; exact hlt)
  have hr : j % sz < sz := Nat.mod_lt _ hsz
  have he : j = j / sz * sz + j % sz := by rw [Nat.mul_comm]; exact (Nat.div_add_mod j sz).symm
  have hy : ((List.range xs.length).map f)[j / sz]? = some (f (j / sz)) := by rw [List.getElem?_map, List.getElem?_range hq]; rfl
  have hfl := flat_at _ (j / sz) (j % sz) _ hs hy hr
  rw [← he, hu, (hf _ hq).2.1 _ hr] at hfl
  rw [Addr.add_lit, hfl]
  congr 2
  omega

theorem grown_setK (W : World) (b k : Nat) (x : Value) : W.grownBy (W.setCell ⟨b, k, none⟩ x) (some b) := grown_set W b k x
theorem ListOwn.slice {α : Type} {T : TypeId} {sz : Nat} {R : El α} {W : World} {lo : Nat} {v : Value} {xs : List α} (h : ListOwn T sz R W lo v xs) : ∃ A c, v = .slice A xs.length c := by
 obtain ⟨yss, ho, _⟩ := h
 exact own_sliceN ho

end Go.Proofs.Ytneeocnjfnneoaa
