/-
  No two disks that can be told have one text.
  Conditions: none.
-/
import Derived.Test.YtdpjdobmnkadjaaRefSame
set_option linter.unusedVariables false
set_option linter.unusedSimpArgs false
namespace Go.Proofs.Ytdpjdobmnkadjaa
open Go.RowKit

theorem digit_of {u v j : Nat} (hj : j < 8) (h : longL u 8 = longL v 8) : (u / 256 ^ j) % 256 = (v / 256 ^ j) % 256 := by
  have e : (longL u 8)[j + 1]? = (longL v 8)[j + 1]? := by rw [h]
  simp only [longL, List.getElem?_cons_succ, List.getElem?_map, List.getElem?_range hj, Option.map_some, Option.some.injEq] at e
  have e2 := congrArg UInt8.toNat e
  simpa using e2
theorem longL_inj {u v : Nat} (hu : u < 18446744073709551616) (hv : v < 18446744073709551616) (h : longL u 8 = longL v 8) : u = v := by
  have d0 := digit_of (j := 0) (by omega) h
  have d1 := digit_of (j := 1) (by omega) h
  have d2 := digit_of (j := 2) (by omega) h
  have d3 := digit_of (j := 3) (by omega) h
  have d4 := digit_of (j := 4) (by omega) h
  have d5 := digit_of (j := 5) (by omega) h
  have d6 := digit_of (j := 6) (by omega) h
  have d7 := digit_of (j := 7) (by omega) h
  have n : ∀ x : Nat, x / 256 ^ 1 = x / 256 ∧ x / 256 ^ 2 = x / 256 / 256 ∧ x / 256 ^ 3 = x / 256 / 256 / 256 ∧ x / 256 ^ 4 = x / 256 / 256 / 256 / 256 ∧ x / 256 ^ 5 = x / 256 / 256 / 256 / 256 / 256 ∧ x / 256 ^ 6 = x / 256 / 256 / 256 / 256 / 256 / 256 ∧ x / 256 ^ 7 = x / 256 / 256 / 256 / 256 / 256 / 256 / 256 := fun x => by
    simp [Nat.div_div_eq_div_mul]
  obtain ⟨a1, a2, a3, a4, a5, a6, a7⟩ := n u
  obtain ⟨b1, b2, b3, b4, b5, b6, b7⟩ := n v
  rw [a1, b1] at d1
  rw [a2, b2] at d2
  rw [a3, b3] at d3
  rw [a4, b4] at d4
  rw [a5, b5] at d5
  rw [a6, b6] at d6
  rw [a7, b7] at d7
  rw [Nat.pow_zero, Nat.div_one, Nat.div_one] at d0
  clear a1 a2 a3 a4 a5 a6 a7 b1 b2 b3 b4 b5 b6 b7 n h
  omega
theorem longT_inj {n m : Int} (hn : -9223372036854775808 ≤ n ∧ n ≤ 9223372036854775807) (hm : -9223372036854775808 ≤ m ∧ m ≤ 9223372036854775807) (h : longT n = longT m) : n = m := by
  have e := longL_inj (u := u64N n) (v := u64N m) (by unfold u64N; omega) (by unfold u64N; omega) h
  unfold u64N at e
  omega
theorem append9 {a b r q : Bs} (ha : a.length = 9) (hb : b.length = 9) (h : a ++ r = b ++ q) : a = b ∧ r = q := List.append_inj h (by rw [ha, hb])
theorem told1_inj : ∀ (ss tt : List Bs) (r q : Bs), ss.length = tt.length → (∀ s ∈ ss, s.length ≤ 8000000) → (∀ s ∈ tt, s.length ≤ 8000000) → told1 ss ++ r = told1 tt ++ q → ss = tt ∧ r = q
  | [], [], r, q, _, _, _, h => ⟨rfl, by simpa [told1] using h⟩
  | s :: ss, t :: tt, r, q, hl, h1, h2, h => by
    have e1 : told1 (s :: ss) ++ r = longT s.length ++ (s ++ (told1 ss ++ r)) := by simp [told1, toldS]
    have e2 : told1 (t :: tt) ++ q = longT t.length ++ (t ++ (told1 tt ++ q)) := by simp [told1, toldS]
    rw [e1, e2] at h
    obtain ⟨ha, hb⟩ := append9 (longT_length _) (longT_length _) h
    have hs := h1 s (by simp)
    have ht := h2 t (by simp)
    have hlen : (s.length : Int) = t.length := longT_inj (by omega) (by omega) ha
    obtain ⟨hst, hrest⟩ := List.append_inj hb (by omega)
    obtain ⟨hss, hrq⟩ := told1_inj ss tt r q (by simpa using hl) (fun x hx => h1 x (List.mem_cons_of_mem _ hx)) (fun x hx => h2 x (List.mem_cons_of_mem _ hx)) hrest
    exact ⟨by rw [hst, hss], hrq⟩
theorem told2_inj : ∀ (ss tt : List Wr), ss.length = tt.length → (∀ x ∈ ss, x.2.length ≤ 8000000 ∧ -9223372036854775808 ≤ x.1 ∧ x.1 ≤ 9223372036854775807) → (∀ x ∈ tt, x.2.length ≤ 8000000 ∧ -9223372036854775808 ≤ x.1 ∧ x.1 ≤ 9223372036854775807) → told2 ss = told2 tt → ss = tt
  | [], [], _, _, _, h => rfl
  | s :: ss, t :: tt, hl, h1, h2, h => by
    have e1 : told2 (s :: ss) = longT s.1 ++ (longT s.2.length ++ (s.2 ++ told2 ss)) := by simp [told2, toldW]
    have e2 : told2 (t :: tt) = longT t.1 ++ (longT t.2.length ++ (t.2 ++ told2 tt)) := by simp [told2, toldW]
    rw [e1, e2] at h
    obtain ⟨ha, hb⟩ := append9 (longT_length _) (longT_length _) h
    obtain ⟨hc, hd⟩ := append9 (longT_length _) (longT_length _) hb
    have hs := h1 s (by simp)
    have ht := h2 t (by simp)
    have hat : s.1 = t.1 := longT_inj hs.2 ht.2 ha
    have hlen : (s.2.length : Int) = t.2.length := longT_inj (by omega) (by omega) hc
    obtain ⟨hst, hrest⟩ := List.append_inj hd (by omega)
    have hss := told2_inj ss tt (by simpa using hl) (fun x hx => h1 x (List.mem_cons_of_mem _ hx)) (fun x hx => h2 x (List.mem_cons_of_mem _ hx)) hrest
    rw [hss, Prod.ext hat hst]
theorem toldD_inj {ss tt : List Bs} {ws vs : List Wr} (hl : ss.length = tt.length) (hm : ws.length = vs.length) (h1 : ∀ s ∈ ss, s.length ≤ 8000000) (h2 : ∀ s ∈ tt, s.length ≤ 8000000) (h3 : ∀ x ∈ ws, x.2.length ≤ 8000000 ∧ -9223372036854775808 ≤ x.1 ∧ x.1 ≤ 9223372036854775807) (h4 : ∀ x ∈ vs, x.2.length ≤ 8000000 ∧ -9223372036854775808 ≤ x.1 ∧ x.1 ≤ 9223372036854775807) (h : toldD ss ws = toldD tt vs) : ss = tt ∧ ws = vs := by
  obtain ⟨ha, hb⟩ := told1_inj ss tt _ _ hl h1 h2 h
  exact ⟨ha, told2_inj ws vs hm h3 h4 (List.cons.inj hb).2⟩
theorem sameT_eq {ss tt : List Bs} {ws vs : List Wr} (h1 : ∀ s ∈ ss, s.length ≤ 8000000) (h2 : ∀ s ∈ tt, s.length ≤ 8000000) (h3 : ∀ x ∈ ws, x.2.length ≤ 8000000 ∧ -9223372036854775808 ≤ x.1 ∧ x.1 ≤ 9223372036854775807) (h4 : ∀ x ∈ vs, x.2.length ≤ 8000000 ∧ -9223372036854775808 ≤ x.1 ∧ x.1 ≤ 9223372036854775807) : sameT ss tt ws vs = decide (ss = tt ∧ ws = vs) := by
  rw [sameT, ← Bool.decide_and, ← Bool.decide_and]
  refine decide_eq_decide.2 ⟨fun h => toldD_inj h.1 h.2.1 h1 h2 h3 h4 h.2.2, ?_⟩
  rintro ⟨rfl, rfl⟩
  exact ⟨rfl, rfl, rfl⟩
end Go.Proofs.Ytdpjdobmnkadjaa
