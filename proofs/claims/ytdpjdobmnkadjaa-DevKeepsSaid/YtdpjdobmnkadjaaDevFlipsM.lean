/-
  What a byte that is turned does to what is seen, and to what lasts.
  Conditions: none.
-/
import Derived.Test.YtdpjdobmnkadjaaDevSpoil
import Derived.Test.YtdpjdobmnkadjaaDevCrash
import Derived.Test.YtdpjdobmnkadjaaDevRead
set_option linter.unusedVariables false
set_option linter.unusedSimpArgs false
namespace Go.Proofs.Ytdpjdobmnkadjaa
open Go.RowKit

theorem spoilE_zero {ss : List Bs} {ws : List Wr} {n k : Int} (h : spoilE ss ws n k = 0) : May ss ws ∧ (0 ≤ n ∧ n < 32) ∧ (0 ≤ k ∧ k < 128) := by
  rw [spoilE] at h
  by_cases ha : atE ss ws n = 0
  · rw [if_pos ha] at h
    by_cases hk : 0 ≤ k ∧ k < 128
    · exact ⟨(atE_may ha).1, (atE_may ha).2, hk⟩
    · rw [if_neg hk] at h; exact absurd h (by decide)
  · rw [if_neg ha] at h; exact absurd h ha
theorem atE_good {ss : List Bs} {ws : List Wr} {n : Int} (h : May ss ws) (h0 : 0 ≤ n ∧ n < 32) : atE ss ws n = 0 := by rw [atE, if_pos (mayB_iff.2 h), if_pos h0]
theorem spoilE_good {ss : List Bs} {ws : List Wr} {n k : Int} (h : May ss ws) (h0 : 0 ≤ n ∧ n < 32) (h1 : 0 ≤ k ∧ k < 128) : spoilE ss ws n k = 0 := by rw [spoilE, if_pos (atE_good h h0), if_pos h1]
theorem turned_length (ss : List Bs) (n k : Nat) (x : UInt8) : (turned ss n k x).length = ss.length := by rw [turned, List.length_modify]
theorem turned_twice (ss : List Bs) (n k : Nat) (x y : UInt8) : turned (turned ss n k x) n k y = turned ss n k (x ^^^ y) := by
  rw [turned, turned, turned, List.modify_modify_eq]
  congr 1
  funext s
  show (s.modify k _).modify k _ = _
  rw [List.modify_modify_eq]
  congr 1
  funext b
  show (b ^^^ x) ^^^ y = b ^^^ (x ^^^ y)
  rw [UInt8.xor_assoc]
theorem turned_at {ss : List Bs} {n k : Nat} {x : UInt8} (h : n < ss.length) : (turned ss n k x)[n]? = some (ss[n].modify k fun b => b ^^^ x) := by
  rw [turned, List.getElem?_modify, List.getElem?_eq_getElem h]; simp
theorem may_turned {ss : List Bs} {ws : List Wr} (h : May ss ws) (n k : Nat) (x : UInt8) : May (turned ss n k x) ws := by
  refine ⟨by rw [turned_length]; exact h.n, h.m, fun s hs => ?_, h.w⟩
  obtain ⟨j, hj, rfl⟩ := List.getElem_of_mem hs
  have hjs : j < ss.length := by rwa [turned_length] at hj
  obtain ⟨T, hT⟩ : ∃ T, T = (turned ss n k x)[j] := ⟨_, rfl⟩
  have e : (turned ss n k x)[j]? = some T := by rw [hT]; exact List.getElem?_eq_getElem hj
  rw [← hT]
  rw [turned, List.getElem?_modify, List.getElem?_eq_getElem hjs] at e
  have e' := Option.some.inj e
  rw [← e']
  split
  · rw [List.length_modify]; exact h.s _ (List.getElem_mem _)
  · exact h.s _ (List.getElem_mem _)
theorem seeAll_hid {a : Nat} : ∀ {ps : List (Nat × Bs)} {s t : Bs}, s.length = 128 → t.length = 128 → (∀ p ∈ ps, p.2.length = 128) → (∃ p ∈ ps, p.1 = a) → seeAll s a ps = seeAll t a ps
  | [], _, _, _, _, _, h => by obtain ⟨p, hp, _⟩ := h; cases hp
  | p :: ps, s, t, hs, ht, hl, h => by
    rw [seeAll_cons, seeAll_cons]
    have hp := hl p (by simp)
    by_cases hpa : p.1 = a
    · rw [if_pos hpa, if_pos hpa, lay_whole (by omega), lay_whole (by omega)]
    · rw [if_neg hpa, if_neg hpa]
      obtain ⟨q, hq, hqa⟩ := h
      rcases List.mem_cons.1 hq with rfl | hq
      · exact absurd hqa hpa
      · exact seeAll_hid hs ht (fun p hp => hl p (by simp [hp])) ⟨q, hq, hqa⟩
theorem seeAll_none {a : Nat} : ∀ {ps : List (Nat × Bs)} {s : Bs}, (∀ p ∈ ps, p.1 = a → p.2 = []) → seeAll s a ps = s
  | [], _, _ => rfl
  | p :: ps, s, h => by
    rw [seeAll_cons]
    by_cases hpa : p.1 = a
    · rw [if_pos hpa, h p (by simp) hpa, lay_nil]; exact seeAll_none (fun q hq => h q (by simp [hq]))
    · rw [if_neg hpa]; exact seeAll_none (fun q hq => h q (by simp [hq]))
theorem pieces_mem {ws : List Wr} {ks : List Nat} {p : Nat × Bs} (h : p ∈ piecesOf ws ks) : ∃ i, ∃ (hi : i < ws.length) (hk : i < ks.length), p = (ws[i].1.toNat, ws[i].2.take ks[i]) := by
  obtain ⟨i, hi, rfl⟩ := List.getElem_of_mem h
  have hl : i < ws.length ∧ i < ks.length := by rw [piecesOf, List.length_zipWith] at hi; omega
  refine ⟨i, hl.1, hl.2, ?_⟩
  have e := piecesOf_at hl.1 hl.2
  rw [List.getElem?_eq_getElem hi] at e
  exact Option.some.inj e
theorem readS_good {ss : List Bs} {ws : List Wr} {m : Nat} (h : May ss ws) (hm : m < 32) : ∃ hl : m < ss.length, readS ss ws (m : Int) = seeAll ss[m] m (piecesOf ws (all128 ws)) := by
  have hl : m < ss.length := by rw [h.n]; exact hm
  refine ⟨hl, ?_⟩
  rw [readS, if_pos (atE_good h ⟨by omega, by omega⟩), Int.toNat_natCast, List.getD_eq_getElem?_getD, List.getElem?_eq_getElem hl]; rfl
theorem readS_length {ss : List Bs} {ws : List Wr} {m : Nat} (h : May ss ws) (hm : m < 32) : (readS ss ws (m : Int)).length = 128 := by
  obtain ⟨hl, e⟩ := readS_good h hm
  have h1 := h.s _ (List.getElem_mem hl)
  rw [e, seeAll_length (fun p hp => by rw [h1]; exact (pieces_le h.w p hp).1), h1]
/-- Where a write waits. -/
theorem read_waits {ss : List Bs} {ws : List Wr} {m k : Nat} {x : UInt8} (h : May ss ws) (hm : m < 32) (hw : ∃ i, ∃ hi : i < ws.length, ws[i].1 = (m : Int)) : readS (turned ss m k x) ws (m : Int) = readS ss ws (m : Int) := by
  obtain ⟨h1, e1⟩ := readS_good (may_turned h m k x) hm
  obtain ⟨h2, e2⟩ := readS_good h hm
  rw [e1, e2]
  refine seeAll_hid ((may_turned h m k x).s _ (List.getElem_mem _)) (h.s _ (List.getElem_mem _)) (fun p hp => ?_) ?_
  · obtain ⟨i, hi, hk, rfl⟩ := pieces_mem hp
    have := (h.w _ (List.getElem_mem hi)).2.2
    show (List.take _ _).length = 128
    rw [List.length_take]
    simp only [all128, List.getElem_replicate]
    omega
  · obtain ⟨i, hi, he⟩ := hw
    have hk : i < (all128 ws).length := by rw [all128, List.length_replicate]; exact hi
    refine ⟨_, List.mem_of_getElem? (piecesOf_at hi hk), ?_⟩
    show (ws[i].1).toNat = m
    rw [he]; rfl
/-- Where none does. -/
theorem read_none {ss : List Bs} {ws : List Wr} {m : Nat} (h : May ss ws) (hm : m < 32) (hw : ∀ i, ∀ hi : i < ws.length, ws[i].1 ≠ (m : Int)) : ∃ hl : m < ss.length, readS ss ws (m : Int) = ss[m] := by
  obtain ⟨h2, e2⟩ := readS_good h hm
  refine ⟨h2, e2.trans (seeAll_none (fun p hp hpa => ?_))⟩
  obtain ⟨i, hi, hk, rfl⟩ := pieces_mem hp
  have h0 := (h.w _ (List.getElem_mem hi)).1
  have hpa' : (ws[i].1).toNat = m := hpa
  exact absurd (by omega) (hw i hi)
theorem modify_xor {s : Bs} {k : Nat} {x : UInt8} (hk : k < s.length) : (s.modify k fun b => b ^^^ x) = s ↔ x = 0 := by
  constructor
  · intro e
    have h1 : (s.modify k fun b => b ^^^ x)[k]? = s[k]? := by rw [e]
    rw [List.getElem?_modify, List.getElem?_eq_getElem hk] at h1
    simp only [↓reduceIte, Option.map_eq_map, Option.map_some, Option.some.injEq] at h1
    have h2 : s[k] ^^^ (s[k] ^^^ x) = s[k] ^^^ s[k] := by rw [h1]
    rwa [← UInt8.xor_assoc, UInt8.xor_self, UInt8.zero_xor] at h2
  · intro e
    subst e
    have : (fun b : UInt8 => b ^^^ 0) = id := by funext b; exact UInt8.xor_zero
    rw [this, List.modify_id]
theorem read_turned {ss : List Bs} {ws : List Wr} {m k : Nat} {x : UInt8} (h : May ss ws) (hm : m < 32) (hk : k < 128) (hw : ∀ i, ∀ hi : i < ws.length, ws[i].1 ≠ (m : Int)) : readS ss ws (m : Int) = readS (turned ss m k x) ws (m : Int) ↔ x = 0 := by
  obtain ⟨h1, e1⟩ := read_none (may_turned h m k x) hm hw
  obtain ⟨h2, e2⟩ := read_none h hm hw
  have e3 : (turned ss m k x)[m] = ss[m].modify k fun b => b ^^^ x := Option.some.inj ((List.getElem?_eq_getElem h1).symm.trans (turned_at h2))
  rw [e1, e2, e3]
  have hs : ss[m].length = 128 := h.s _ (List.getElem_mem h2)
  exact ⟨fun e => (modify_xor (by omega)).1 e.symm, fun e => ((modify_xor (by omega)).2 e).symm⟩
def zeros (n : Nat) : List Int := List.replicate n 0
theorem zeros_length (n : Nat) : (zeros n).length = n := List.length_replicate
theorem crash_zeros {ss : List Bs} {ws : List Wr} (h : May ss ws) : crashE ss ws (zeros ws.length) = 0 ∧ crashS ss ws (zeros ws.length) = ss := by
  have h0 : crashE ss ws (zeros ws.length) = 0 := crashE_zero h (zeros_length _) (fun k hk => by rw [List.eq_of_mem_replicate hk]; exact ⟨by decide, by decide⟩)
  refine ⟨h0, ?_⟩
  rw [crashS, if_pos h0, comes]
  refine List.ext_getElem? fun j => ?_
  rw [layAll_at]
  cases hj : ss[j]? with
  | none => rfl
  | some s =>
    show some (seeAll s j _) = some s
    rw [seeAll_none (fun p hp hpa => ?_)]
    obtain ⟨i, hi, hk, rfl⟩ := pieces_mem hp
    show List.take _ _ = []
    have : ((zeros ws.length).map Int.toNat)[i] = 0 := by simp [zeros]
    rw [this]; rfl
end Go.Proofs.Ytdpjdobmnkadjaa
