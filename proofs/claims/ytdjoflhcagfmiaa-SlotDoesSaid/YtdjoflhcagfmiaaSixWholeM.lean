/-
  What a slot's sectors tell, read as the document's own function reads them.
  Conditions: none.
-/
import Derived.Test.YtdjoflhcagfmiaaSixNext
import Derived.Test.YtdjoflhcagfmiaaMFind
set_option linter.unusedVariables false
set_option linter.unusedSimpArgs false
set_option maxRecDepth 100000
namespace Go.Proofs.Ytdjoflhcagfmiaa
open Go.RowKit

theorem whole_none {S : List Bs} {k : Nat} (hl : S.length = 16) (h128 : ∀ s ∈ S, s.length = 128) (h : ∀ g t, ¬ IsWhole S k g t) : wholeR S k = none := by
  cases hw : wholeR S k with
  | none => rfl
  | some r => exact absurd ((wholeR_iff (g := r.1) (t := r.2) hl h128).1 hw) (h _ _)
/-- What is known of a record that is whole. -/
structure Told (S : List Bs) (k g n : Nat) (t : Bs) : Prop where
  ok : okR g t
  slot : slotN g = k
  cnt : n = cntR t
  head : g = headG (S.getD 0 [])
  size : sizeS (bodyS (S.take n)) = t.length
  text : textS (bodyS (S.take n)) = t
  secs : ∀ i, i < n → (secsR g t)[i]? = S[i]?
theorem whole_told {S : List Bs} {k g : Nat} {t : Bs} (hl : S.length = 16) (h : IsWhole S k g t) {x : UInt8} (hx : (S.getD 0 [])[5]? = some x) : Told S k g x.toNat t := by
  obtain ⟨hok, hs, he⟩ := h
  have hn := cntR_le hok.2.2
  have hp := cntR_pos t
  have hat : ∀ i, i < cntR t → (secsR g t)[i]? = S[i]? := fun i hi => by rw [he, List.getElem?_take_of_lt hi]
  have h0 : S.getD 0 [] = secR g (bodyR g t) 0 := by
    rw [List.getD_eq_getElem?_getD, ← hat 0 hp, secsR_at hp]; rfl
  rw [h0, secR, secP_num] at hx
  have hx1 : x.toNat = cntR t := by
    injection hx with hx
    rw [← hx, cntB_body]; simp; omega
  have hb : bodyS (S.take (cntR t)) = bodyR g t ++ List.replicate (118 * cntR t - (bodyR g t).length) 0 := by rw [← he, bodyS_secs]
  obtain ⟨h1, h2⟩ := body_parts g t (List.replicate (118 * cntR t - (bodyR g t).length) 0) (by have := hok.2.2; omega)
  refine ⟨hok, hs, hx1, ?_, by rw [hx1, hb, h1], by rw [hx1, hb, h2], fun i hi => hat i (by omega)⟩
  rw [h0, headG, secR, secP_head, leN_le 4 g (by have := hok.2.1; omega)]
theorem whole_of {S : List Bs} {k g n : Nat} {t : Bs} (hl : S.length = 16) (h128 : ∀ s ∈ S, s.length = 128) (hok : okR g t) (hs : slotN g = k) (hn : n = cntR t) (h : ∀ i, i < n → (secsR g t)[i]? = S[i]?) : wholeR S k = some (g, t) := by
  subst hn
  exact (wholeR_iff hl h128).2 ⟨hok, hs, taken_eq (by rw [hl]; exact cntR_le hok.2.2) h⟩
/-- What the document's own function answers of a slot. -/
def RefSaid (W : World) (r : Option (Nat × Bs)) (e : Ending) : Prop :=
  match r with
  | none => e = .returned (.tuple #[.agg #[.int .u32 0, .slice none 0 0], .bool false])
  | some (g, t) => ∃ A c, e = .returned (.tuple #[.agg #[.int .u32 (g : Int), .slice A t.length c], .bool true]) ∧ Txt W W.heap.size (.slice A t.length c) t
theorem bodyS_take_length {S : List Bs} (h128 : ∀ s ∈ S, s.length = 128) {n : Nat} (hn : n ≤ S.length) : (bodyS (S.take n)).length = 118 * n := by
  rw [bodyS_length (fun s hs => h128 s (List.mem_of_mem_take hs)), List.length_take, Nat.min_eq_left hn]
theorem txt_eqT (a b : Bs) : decide ((⟨a.toArray⟩ : ByteArray) = ⟨b.toArray⟩) = decide (a = b) := by
  apply decide_eq_decide.2
  constructor
  · intro e
    have := congrArg (fun b : ByteArray => b.data.toList) e
    simpa using this
  · intro e; rw [e]
end Go.Proofs.Ytdjoflhcagfmiaa
