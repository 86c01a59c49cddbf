/-
  What comes of a disk's sectors, as mathematics: pieces laid one after the other.
  Conditions: none.
-/
import Derived.Test.YtdjoflhcagfmiaaTxt
set_option linter.unusedVariables false
set_option linter.unusedSimpArgs false
set_option maxRecDepth 100000
namespace Go.Proofs.Ytdjoflhcagfmiaa
abbrev Bs := List UInt8
abbrev Wr := Int × Bs

/-- A piece laid on a sector. -/
def lay (s p : Bs) : Bs := p ++ s.drop p.length
/-- Pieces laid, each on its own sector. -/
def layAll (ss : List Bs) (ps : List (Nat × Bs)) : List Bs := ps.foldl (fun ss p => ss.modify p.1 (fun s => lay s p.2)) ss
/-- The pieces of writes, by how much is kept of each. -/
def piecesOf (ws : List Wr) (ks : List Nat) : List (Nat × Bs) := List.zipWith (fun w k => (w.1.toNat, w.2.take k)) ws ks

def okW (w : Wr) : Prop := 0 ≤ w.1 ∧ w.1 < 32 ∧ w.2.length = 128
/-- A disk may be. -/
structure May (ss : List Bs) (ws : List Wr) : Prop where
  n : ss.length = 32
  m : ws.length ≤ 256
  s : ∀ x ∈ ss, x.length = 128
  w : ∀ x ∈ ws, okW x

theorem lay_length {s p : Bs} (h : p.length ≤ s.length) : (lay s p).length = s.length := by
  simp only [lay, List.length_append, List.length_drop]; omega
theorem lay_nil (s : Bs) : lay s [] = s := rfl
theorem lay_whole {s p : Bs} (h : s.length ≤ p.length) : lay s p = p := by
  simp only [lay, List.drop_eq_nil_of_le h, List.append_nil]
theorem lay_own (s : Bs) (k : Nat) : lay s (s.take k) = s := by
  unfold lay
  rw [List.length_take]
  rcases Nat.le_total k s.length with h | h
  · rw [Nat.min_eq_left h, List.take_append_drop]
  · rw [Nat.min_eq_right h, List.take_of_length_le h, List.drop_length, List.append_nil]
theorem layAll_nil (ss : List Bs) : layAll ss [] = ss := rfl
theorem layAll_cons (ss : List Bs) (p : Nat × Bs) (ps : List (Nat × Bs)) : layAll ss (p :: ps) = layAll (ss.modify p.1 (fun s => lay s p.2)) ps := rfl
theorem layAll_append (ss : List Bs) (ps qs : List (Nat × Bs)) : layAll ss (ps ++ qs) = layAll (layAll ss ps) qs := by simp [layAll, List.foldl_append]
theorem layAll_snoc (ss : List Bs) (ps : List (Nat × Bs)) (p : Nat × Bs) : layAll ss (ps ++ [p]) = (layAll ss ps).modify p.1 (fun s => lay s p.2) := by rw [layAll_append]; rfl
theorem layAll_length (ss : List Bs) (ps : List (Nat × Bs)) : (layAll ss ps).length = ss.length := by
  induction ps generalizing ss with
  | nil => rfl
  | cons p ps ih => rw [layAll_cons, ih, List.length_modify]

/-- One sector behind pieces. -/
def seeAll (s : Bs) (at_ : Nat) (ps : List (Nat × Bs)) : Bs := ps.foldl (fun s p => if p.1 = at_ then lay s p.2 else s) s
theorem seeAll_cons (s : Bs) (a : Nat) (p : Nat × Bs) (ps : List (Nat × Bs)) : seeAll s a (p :: ps) = seeAll (if p.1 = a then lay s p.2 else s) a ps := rfl
theorem seeAll_append (s : Bs) (a : Nat) (ps qs : List (Nat × Bs)) : seeAll s a (ps ++ qs) = seeAll (seeAll s a ps) a qs := by simp [seeAll, List.foldl_append]
theorem seeAll_snoc (s : Bs) (a : Nat) (ps : List (Nat × Bs)) (p : Nat × Bs) : seeAll s a (ps ++ [p]) = if p.1 = a then lay (seeAll s a ps) p.2 else seeAll s a ps := by rw [seeAll_append]; rfl
theorem layAll_at (ss : List Bs) (ps : List (Nat × Bs)) (a : Nat) : (layAll ss ps)[a]? = ss[a]?.map fun s => seeAll s a ps := by
  induction ps generalizing ss with
  | nil => simp [layAll, seeAll]
  | cons p ps ih =>
    rw [layAll_cons, ih, List.getElem?_modify]
    cases ss[a]? with
    | none => rfl
    | some s =>
      simp only [Option.map_some, seeAll_cons, Option.map]
      by_cases h : p.1 = a <;> simp [h]
theorem seeAll_length {s : Bs} {a : Nat} {ps : List (Nat × Bs)} (h : ∀ p ∈ ps, p.2.length ≤ s.length) : (seeAll s a ps).length = s.length := by
  induction ps generalizing s with
  | nil => rfl
  | cons p ps ih =>
    rw [seeAll_cons]
    have hp := h p (by simp)
    have hl : (if p.1 = a then lay s p.2 else s).length = s.length := by split; exact lay_length hp; rfl
    rw [ih (fun q hq => by rw [hl]; exact h q (by simp [hq])), hl]
theorem layAll_sizes {ss : List Bs} {ps : List (Nat × Bs)} {n : Nat} (hs : ∀ x ∈ ss, x.length = n) (hp : ∀ p ∈ ps, p.2.length ≤ n) : ∀ x ∈ layAll ss ps, x.length = n := by
  intro x hx
  obtain ⟨i, hi⟩ := List.mem_iff_getElem?.1 hx
  rw [layAll_at] at hi
  cases h : ss[i]? with
  | none => rw [h] at hi; cases hi
  | some s =>
    rw [h] at hi
    obtain rfl := Option.some.inj hi
    have hl := hs s (List.mem_iff_getElem?.2 ⟨i, h⟩)
    rw [seeAll_length (fun p hm => by rw [hl]; exact hp p hm), hl]

/-- One byte behind pieces. -/
def byteAll (b : UInt8) (a j : Nat) (ps : List (Nat × Bs)) : UInt8 := ps.foldl (fun b p => if p.1 = a ∧ j < p.2.length then p.2.getD j 0 else b) b
theorem byteAll_snoc (b : UInt8) (a j : Nat) (ps : List (Nat × Bs)) (p : Nat × Bs) : byteAll b a j (ps ++ [p]) = if p.1 = a ∧ j < p.2.length then p.2.getD j 0 else byteAll b a j ps := by simp [byteAll, List.foldl_append]
theorem lay_at (s p : Bs) (j : Nat) : (lay s p)[j]? = if j < p.length then p[j]? else s[j]? := by
  unfold lay
  split
  · rw [List.getElem?_append_left (by assumption)]
  · rw [List.getElem?_append_right (by omega), List.getElem?_drop]; congr 1; omega
theorem seeAll_at {s : Bs} {a : Nat} {ps : List (Nat × Bs)} {j : Nat} {b : UInt8} (hb : s[j]? = some b) : (seeAll s a ps)[j]? = some (byteAll b a j ps) := by
  induction ps generalizing s b with
  | nil => exact hb
  | cons p ps ih =>
    rw [seeAll_cons]
    have : (if p.1 = a then lay s p.2 else s)[j]? = some (if p.1 = a ∧ j < p.2.length then p.2.getD j 0 else b) := by
      by_cases h : p.1 = a
      · rw [if_pos h, lay_at]
        by_cases hj : j < p.2.length
        · simp [h, hj]
        · simp [h, hj, hb]
      · simp [h, hb]
    rw [ih this]; rfl

theorem piecesOf_append (ws ws' : List Wr) (ks ks' : List Nat) (h : ws.length = ks.length) : piecesOf (ws ++ ws') (ks ++ ks') = piecesOf ws ks ++ piecesOf ws' ks' := by
  unfold piecesOf; exact List.zipWith_append h
theorem piecesOf_length (ws : List Wr) (ks : List Nat) (h : ws.length = ks.length) : (piecesOf ws ks).length = ws.length := by simp [piecesOf, h]
theorem piecesOf_at {ws : List Wr} {ks : List Nat} {i : Nat} (hi : i < ws.length) (hk : i < ks.length) : (piecesOf ws ks)[i]? = some (ws[i].1.toNat, ws[i].2.take ks[i]) := by
  simp [piecesOf, List.getElem?_zipWith, List.getElem?_eq_getElem hi, List.getElem?_eq_getElem hk]
theorem pieces_le {ws : List Wr} {ks : List Nat} (h : ∀ w ∈ ws, okW w) : ∀ p ∈ piecesOf ws ks, p.2.length ≤ 128 ∧ p.1 < 32 := by
  intro p hp
  unfold piecesOf at hp
  obtain ⟨i, hi⟩ := List.mem_iff_getElem?.1 hp
  rw [List.getElem?_zipWith] at hi
  cases hw : ws[i]? with
  | none => rw [hw] at hi; cases ks[i]? <;> cases hi
  | some w =>
    cases hk : ks[i]? with
    | none => rw [hw, hk] at hi; cases hi
    | some k =>
      rw [hw, hk] at hi
      obtain rfl := Option.some.inj hi
      obtain ⟨h0, h1, h2⟩ := h w (List.mem_iff_getElem?.2 ⟨i, hw⟩)
      simp only [List.length_take]
      omega
/-- What comes of sectors. -/
def comes (ss : List Bs) (ws : List Wr) (ks : List Nat) : List Bs := layAll ss (piecesOf ws ks)
def all128 (ws : List Wr) : List Nat := List.replicate ws.length 128
theorem may_comes {ss : List Bs} {ws : List Wr} (h : May ss ws) (ks : List Nat) : May (comes ss ws ks) [] :=
  ⟨by rw [comes, layAll_length, h.n], by simp, layAll_sizes h.s fun p hp => (pieces_le h.w p hp).1, by simp⟩
end Go.Proofs.Ytdjoflhcagfmiaa
