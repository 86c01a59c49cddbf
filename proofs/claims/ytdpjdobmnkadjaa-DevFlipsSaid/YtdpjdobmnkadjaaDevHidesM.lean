/-
  A write that is kept whole hides what was kept of all ahead of it on its sector, as mathematics.
  Conditions: none.
-/
import Derived.Test.YtdpjdobmnkadjaaDevMath
set_option linter.unusedVariables false
set_option linter.unusedSimpArgs false
namespace Go.Proofs.Ytdpjdobmnkadjaa

theorem seeAll_congr (a : Nat) : ∀ (ps qs : List (Nat × Bs)) (s : Bs), ps.length = qs.length → (∀ (j : Nat) (p q : Nat × Bs), ps[j]? = some p → qs[j]? = some q → p.1 = q.1 ∧ (p.1 = a → p.2 = q.2)) → seeAll s a ps = seeAll s a qs
  | [], [], s, _, _ => rfl
  | p :: ps, q :: qs, s, h, hj => by
    obtain ⟨h1, h2⟩ := hj 0 p q rfl rfl
    rw [seeAll_cons, seeAll_cons]
    have e : (if p.1 = a then lay s p.2 else s) = (if q.1 = a then lay s q.2 else s) := by
      by_cases ha : p.1 = a
      · rw [if_pos ha, if_pos (h1 ▸ ha), h2 ha]
      · rw [if_neg ha, if_neg (fun h => ha (h1.trans h))]
    rw [e]
    exact seeAll_congr a ps qs _ (by simpa using h) (fun j p' q' hp hq => hj (j + 1) p' q' (by simpa using hp) (by simpa using hq))
theorem see_whole {s : Bs} {a m : Nat} {ps : List (Nat × Bs)} {p : Nat × Bs} (hp : ps[m]? = some p) (ha : p.1 = a) (hs : s.length = 128) (hl : ∀ q ∈ ps, q.2.length ≤ 128) (hw : p.2.length = 128) : seeAll s a ps = seeAll p.2 a (ps.drop (m + 1)) := by
  have hlt : m < ps.length := (List.getElem?_eq_some_iff.1 hp).1
  have hpm : ps[m] = p := (List.getElem?_eq_some_iff.1 hp).2
  have h1 : seeAll s a (ps.take m ++ p :: ps.drop (m + 1)) = seeAll p.2 a (ps.drop (m + 1)) := by
    rw [seeAll_append, seeAll_cons, if_pos ha, lay_whole]
    rw [seeAll_length (fun q hq => by rw [hs]; exact hl q (List.mem_of_mem_take hq)), hs, hw]
    exact Nat.le_refl _
  rw [← h1, ← hpm, ← List.drop_eq_getElem_cons hlt, List.take_append_drop]
theorem hides {ss : List Bs} {ws : List Wr} (h : May ss ws) {ka kb : List Nat} (ha : ka.length = ws.length) (hb : kb.length = ws.length) {m : Nat} (hm : m < ws.length) (hka : ka[m]? = some 128) (hkb : kb[m]? = some 128)
    (hj : ∀ j (h : j < ws.length), m < j → (ws[j]).1 = (ws[m]).1 → kb[j]? = ka[j]?) {s : Bs} (hs : s.length = 128) : seeAll s (ws[m]).1.toNat (piecesOf ws ka) = seeAll s (ws[m]).1.toNat (piecesOf ws kb) := by
  have hok := h.w _ (List.getElem_mem hm)
  have hA : m < ka.length := by omega
  have hB : m < kb.length := by omega
  have ka128 : ka[m] = 128 := by rw [List.getElem?_eq_getElem hA] at hka; exact Option.some.inj hka
  have kb128 : kb[m] = 128 := by rw [List.getElem?_eq_getElem hB] at hkb; exact Option.some.inj hkb
  have p1 := piecesOf_at (ws := ws) (ks := ka) hm hA
  have p2 := piecesOf_at (ws := ws) (ks := kb) hm hB
  rw [ka128, List.take_of_length_le (by rw [hok.2.2]; exact Nat.le_refl _)] at p1
  rw [kb128, List.take_of_length_le (by rw [hok.2.2]; exact Nat.le_refl _)] at p2
  rw [see_whole p1 rfl hs (fun q hq => (pieces_le h.w q hq).1) hok.2.2, see_whole p2 rfl hs (fun q hq => (pieces_le h.w q hq).1) hok.2.2]
  refine seeAll_congr _ _ _ _ (by rw [List.length_drop, List.length_drop, piecesOf_length _ _ ha.symm, piecesOf_length _ _ hb.symm]) (fun j p q hp hq => ?_)
  rw [List.getElem?_drop] at hp hq
  have hlt : m + 1 + j < ws.length := by
    have := (List.getElem?_eq_some_iff.1 hp).1
    rwa [piecesOf_length _ _ ha.symm] at this
  rw [piecesOf_at hlt (by omega)] at hp hq
  cases hp
  cases hq
  refine ⟨rfl, fun he => ?_⟩
  have hok2 := h.w _ (List.getElem_mem hlt)
  have := hj (m + 1 + j) hlt (by omega) (by have := hok.1; have := hok2.1; simp only at he; omega)
  rw [List.getElem?_eq_getElem (by omega), List.getElem?_eq_getElem (by omega)] at this
  simp only [Option.some.inj this]
end Go.Proofs.Ytdpjdobmnkadjaa
