/-
  The document's own functions Find and Next of package track.
  Conditions: none.
-/
import Derived.Test.YthlolpflgninjaaTrkRefF
set_option linter.unusedVariables false
set_option linter.unusedSimpArgs false
set_option maxRecDepth 100000
namespace Go.Proofs.Ythlolpflgninjaa
open Go.RowKit

noncomputable def findE7 (l : List Sec) (id : Int) : Int := if mayT l then (if atS l id < 0 then 6 else 0) else 8
noncomputable def findS7 (l : List Sec) (id : Int) : Sec := if findE7 l id = 0 then l.getD (atS l id).toNat (0, 0, []) else (0, 0, [])
noncomputable def nextE7 (l : List Sec) (id k : Int) : Int := if findE7 l id = 0 then (if k < 0 ∨ ((findS7 l id).2.2.length : Int) ≤ k then 2 else 0) else findE7 l id
noncomputable def nextJ7 (l : List Sec) (id k : Int) : Jn := if nextE7 l id k = 0 then (findS7 l id).2.2.getD k.toNat (0, 0) else (0, 0)
theorem shaped_few {s : Sec} (h : shapedB s = true) : s.2.2.length ≤ 3 := by
  rw [shapedB] at h
  split at h
  · have := of_decide_eq_true h; omega
  · simp at h; omega

set_option maxHeartbeats 4000000 in
theorem rfind7_any (v : Value) (l : List Sec) (id : Int) (w : World) (h : SectsIn w w.heap.size v l) :
    Calls Try.prog 78 #[v, .int .i64 id] w fun e w' => ∃ u, e = .returned (.tuple #[.agg #[.int .i64 (findS7 l id).1, .int .i64 (findS7 l id).2.1, u], .int .i64 (findE7 l id)]) ∧ JoinsOwn w' w.heap.size u (findS7 l id).2.2 ∧ Below w.heap.size w w' := by
  have H := Lib.hid h
  obtain ⟨A, c, rfl, -, -⟩ := h.slice
  obtain ⟨n, hn⟩ : ∃ n, n = l.length := ⟨_, rfl⟩
  have HN := Lib.hid hn
  rw [← hn] at H ⊢
  clear h hn
  have hq0 := heap_alloc_self w (.cells #[.int .i64 0, .int .i64 0, .slice none 0 0] 64)
  have hqb := below_new w (.cells #[.int .i64 0, .int .i64 0, .slice none 0 0] 64)
  go_enter Try.func78, Try.ntmps78
  go_wp2_with fail
  obtain ⟨q, hq⟩ : ∃ q, q = w.alloc (.cells #[.int .i64 0, .int .i64 0, .slice none 0 0] 64) := ⟨_, rfl⟩
  rw [← hq] at hq0 hqb ⊢
  have QB := Lib.hid hqb
  have QS : Hid (q.heap.size = w.heap.size + 1) := Lib.hid (by rw [hq]; exact heap_alloc_size _ _)
  refine (rmay7_any _ l q ((H.out.below secR_ QB.out).more secR_ QB.out.size)).mono ?_
  rintro e w1 ⟨rfl, b1⟩
  have B1 := Lib.hid (QB.out.trans (b1.mono QB.out.size))
  have X1 := Lib.hid ((b1.block _ (heap_lt hq0)).trans hq0)
  have S1 : Hid (w.heap.size + 1 ≤ w1.heap.size) := Lib.hid (by have := b1.size; have := QS.out; omega)
  clear b1 hq0 hqb hq
  obtain ⟨r0, r1, r2⟩ := cell3_of X1.out
  have f0 := frozen2_of X1.out 0
  have f1 := frozen2_of X1.out 1
  have f2 := frozen2_of X1.out 2
  have BAD : Hid (∀ (E : Int) (u : World), findE7 l id = E → E ≠ 0 → Below w.heap.size w u → ∃ x, Ending.returned (.tuple #[.agg #[.int .i64 0, .int .i64 0, .slice none 0 0], .int .i64 E]) = .returned (.tuple #[.agg #[.int .i64 (findS7 l id).1, .int .i64 (findS7 l id).2.1, x], .int .i64 (findE7 l id)]) ∧ JoinsOwn u w.heap.size x (findS7 l id).2.2 ∧ Below w.heap.size w u) := Lib.hid (fun E u hE h0 hb => by
    have hs : findS7 l id = (0, 0, []) := by rw [findS7, hE, if_neg h0]
    rw [hs, hE]
    exact ⟨_, rfl, ListOwn.nil_, hb⟩)
  cases hm : mayT l with
  | false =>
    have HE : Hid (findE7 l id = 8) := Lib.hid (by rw [findE7, hm]; rfl)
    clear hm
    go_wp2_with fail
    exact bodyPost_ret (results_3_tmp rfl _ _ w.heap.size rfl (heap_set3 X1.out _ _ _) Try.underlying64 infoSec3 (.int .i64 8) rfl) rfl (BAD.out 8 _ HE.out (by decide) (below_set3 B1.out (Nat.le_refl _) _ _ _))
  | true =>
    have HM := Lib.hid (mayT_iff.1 hm)
    have HE0 : Hid (findE7 l id = if atS l id < 0 then 6 else 0) := Lib.hid (by rw [findE7, hm]; rfl)
    clear hm
    go_wp2_with fail
    refine (rat_any _ l id w1 ((H.out.below secR_ B1.out).more secR_ B1.out.size)).mono ?_
    rintro e w' ⟨rfl, hw'⟩
    obtain rfl : w1 = w' := hw'.symm
    rcases atS_cases l id with hi | ⟨i, hil, hi, hid⟩
    · have HE : Hid (findE7 l id = 6) := Lib.hid (by rw [HE0.out, hi]; rfl)
      rw [hi]
      clear hi
      go_wp2_with fail
      exact bodyPost_ret (results_3_tmp rfl _ _ w.heap.size rfl (heap_set3 X1.out _ _ _) Try.underlying64 infoSec3 (.int .i64 6) rfl) rfl (BAD.out 6 _ HE.out (by decide) (below_set3 B1.out (Nat.le_refl _) _ _ _))
    · have HE : Hid (findE7 l id = 0) := Lib.hid (by rw [HE0.out, hi, if_neg (by omega)])
      have HS : Hid (findS7 l id = l[i]) := Lib.hid (by rw [findS7, HE.out, if_pos rfl, hi, Int.toNat_natCast, List.getD_eq_getElem?_getD, List.getElem?_eq_getElem hil]; rfl)
      have hfew := shaped_few (HM.out.s i hil).2.2
      obtain ⟨b, off, hA, hb, hc0, hc1, u, hc2, hu⟩ := ((H.out.below secR_ B1.out).more secR_ B1.out.size).at hil
      subst hA
      obtain ⟨s, hs⟩ : ∃ s, s = l[i] := ⟨_, rfl⟩
      rw [← hs] at hc0 hc1 hu hfew HS
      obtain ⟨Au, cu, rfl, -, -⟩ := hu.slice
      have hg0 : w1.cell? ⟨b, off + i * 3, none⟩ = some (.int .i64 s.1) := hc0
      have hg1 : w1.cell? ⟨b, off + i * 3 + 1, none⟩ = some (.int .i64 s.2.1) := hc1
      have hg2 : w1.cell? ⟨b, off + i * 3 + 2, none⟩ = some (.slice Au s.2.2.length cu) := hc2
      have HSV : Hid (SecV w1 w1.heap.size (.agg #[.int .i64 s.1, .int .i64 s.2.1, .slice Au s.2.2.length cu]) s) := Lib.hid ⟨_, rfl, hu⟩
      have HF := Lib.hid hfew
      have hin : (i : Int) < n := by rw [HN.out]; omega
      rw [hi]
      clear hc0 hc1 hc2 hu hs hi hfew hb
      go_wp2_with fail
      refine (rtwin7_any _ s w1 HSV.out (by have := HF.out; omega)).mono ?_
      rintro e w2 ⟨u2, rfl, hu2, b2⟩
      obtain ⟨A2, c2, rfl⟩ := hu2.slice
      have O2 := Lib.hid hu2
      have X2 := Lib.hid ((b2.block _ (heap_lt X1.out)).trans X1.out)
      have B2 := Lib.hid (B1.out.trans (b2.mono B1.out.size))
      clear hu2 b2 hg0 hg1 hg2 r0 r1 r2 f0 f1 f2
      obtain ⟨r0, r1, r2⟩ := cell3_of X2.out
      have f0 := frozen2_of X2.out 0
      have f1 := frozen2_of X2.out 1
      have f2 := frozen2_of X2.out 2
      go_wp2_with fail
      refine bodyPost_ret (results_3_tmp rfl _ _ w.heap.size rfl (heap_set3 X2.out _ _ _) Try.underlying64 infoSec3 (.int .i64 0) rfl) rfl ⟨.slice A2 s.2.2.length c2, by rw [HE.out, HS.out], ?_, below_set3 B2.out (Nat.le_refl _) _ _ _⟩
      rw [HS.out]
      obtain ⟨yss, ho, hl, hm, hs2, hr⟩ := O2.out
      refine ⟨yss, owns_mono (ho.kept (grown_set3 w2 w.heap.size (.int .i64 s.1) (.int .i64 s.2.1) (.slice A2 s.2.2.length c2)) ?_) (by have := S1.out; omega), hl, hm, hs2, fun j ys x h1 h2 => hr j ys x h1 h2⟩
      cases hv : (Value.slice A2 s.2.2.length c2).ownBlock with
      | none => exact .inl rfl
      | some k => refine .inr (fun e => ?_); injection e with e; have := own_ge ho _ hv; have := S1.out; omega

set_option maxHeartbeats 4000000 in
theorem rnext7_any (v : Value) (l : List Sec) (id k : Int) (w : World) (h : SectsIn w w.heap.size v l) :
    Calls Try.prog 44 #[v, .int .i64 id, .int .i64 k] w fun e w' => e = .returned (.tuple #[.agg #[.int .i64 (nextJ7 l id k).1, .int .i64 (nextJ7 l id k).2], .int .i64 (nextE7 l id k)]) ∧ Below w.heap.size w w' := by
  have H := Lib.hid h
  obtain ⟨A, c, rfl, -, -⟩ := h.slice
  obtain ⟨n, hn⟩ : ∃ n, n = l.length := ⟨_, rfl⟩
  rw [← hn] at H ⊢
  clear h hn
  have hq0 := heap_alloc_self w (.cells #[.int .i64 0, .int .i64 0] 66)
  have hqb := below_new w (.cells #[.int .i64 0, .int .i64 0] 66)
  go_enter Try.func44, Try.ntmps44
  go_wp2_with fail
  obtain ⟨q, hq⟩ : ∃ q, q = w.alloc (.cells #[.int .i64 0, .int .i64 0] 66) := ⟨_, rfl⟩
  rw [← hq] at hq0 hqb ⊢
  have QB := Lib.hid hqb
  refine (rfind7_any _ l id q ((H.out.below secR_ QB.out).more secR_ QB.out.size)).mono ?_
  rintro e w1 ⟨u, rfl, hu, b1⟩
  obtain ⟨Au, cu, rfl⟩ := hu.slice
  have HE0 : Hid (nextE7 l id k = if findE7 l id = 0 then (if k < 0 ∨ ((findS7 l id).2.2.length : Int) ≤ k then 2 else 0) else findE7 l id) := Lib.hid rfl
  have HJ0 : Hid (nextJ7 l id k = if nextE7 l id k = 0 then (findS7 l id).2.2.getD k.toNat (0, 0) else (0, 0)) := Lib.hid rfl
  generalize findS7 l id = s at hu HE0 HJ0 ⊢
  generalize findE7 l id = E at HE0 ⊢
  obtain ⟨a, p, es⟩ := s
  dsimp only at hu HE0 HJ0 ⊢
  obtain ⟨m, hm⟩ : ∃ m, m = es.length := ⟨_, rfl⟩
  have HMM := Lib.hid hm
  have HMX : Hid (m ≤ maxLen) := Lib.hid (by obtain ⟨_, _, _, h3, _⟩ := hu; rw [hm]; exact h3)
  have HUI : Hid (JoinsIn w1 w1.heap.size (.slice Au m cu) es) := Lib.hid (by rw [hm]; exact hu.in_ joinR_cells)
  rw [← hm] at HE0 ⊢
  have B1 := Lib.hid (QB.out.trans (b1.mono QB.out.size))
  have X1 := Lib.hid ((b1.block _ (heap_lt hq0)).trans hq0)
  clear b1 hq0 hqb hq hu hm
  have hy0 := heap_alloc_self w1 (.cells #[.int .i64 a, .int .i64 p, .slice Au m cu] 64)
  have hyb := below_new w1 (.cells #[.int .i64 a, .int .i64 p, .slice Au m cu] 64)
  obtain ⟨q8, hq8⟩ : ∃ q8, q8 = w1.alloc (.cells #[.int .i64 a, .int .i64 p, .slice Au m cu] 64) := ⟨_, rfl⟩
  rw [← hq8] at hy0 hyb
  go_upto_region 2 with fail
  rw [← hq8]
  have B8 := Lib.hid (B1.out.trans (hyb.mono B1.out.size))
  have X8 := Lib.hid hy0
  have X18 := Lib.hid ((hyb.block _ (heap_lt X1.out)).trans X1.out)
  have HU8 := Lib.hid ((HUI.out.below joinR hyb).more joinR hyb.size)
  generalize w1.heap.size = p8 at X8 ⊢
  clear hy0 hyb hq8
  obtain ⟨k0, k1, k2⟩ := cell3_of X8.out
  obtain ⟨r0, r1⟩ := cell2_of X18.out
  have f0 := frozen2_of X18.out 0
  have f1 := frozen2_of X18.out 1
  have FIN : Hid (∀ (x y F : Int) (o : Ending), o = .returned (.tuple #[.agg #[.int .i64 x, .int .i64 y], .int .i64 F]) → nextE7 l id k = F → nextJ7 l id k = (x, y) → o = .returned (.tuple #[.agg #[.int .i64 (nextJ7 l id k).1, .int .i64 (nextJ7 l id k).2], .int .i64 (nextE7 l id k)])) := Lib.hid (fun x y F o h1 h2 h3 => by rw [h1, h2, h3])
  have NOJ : Hid (nextE7 l id k ≠ 0 → nextJ7 l id k = (0, 0)) := Lib.hid (fun h => by rw [nextJ7, if_neg h])
  by_cases hE : E = 0
  · subst hE
    have HE1 := Lib.hid (HE0.out.trans (if_pos rfl))
    have hmx : m ≤ 9223372036854775807 := by have := HMX.out; unfold maxLen at this; omega
    by_cases hk0 : k < 0
    · have hkd : decide (k < 0) = true := decide_eq_true hk0
      have HE : Hid (nextE7 l id k = 2) := Lib.hid (by rw [HE1.out, if_pos (.inl hk0)])
      have HJ := Lib.hid (NOJ.out (by rw [HE.out]; decide))
      go_wp2_with fail
      refine bodyPost_ret (results_2_tmp rfl _ _ w.heap.size rfl (heap_set2 X18.out _ _) Try.underlying66 infoJoin2 (.int .i64 2) rfl) rfl ⟨FIN.out 0 0 2 _ rfl HE.out HJ.out, below_set2 B8.out (Nat.le_refl _) _ _⟩
    · have hkd : decide (k < 0) = false := decide_eq_false hk0
      by_cases hkm : (m : Int) ≤ k
      · have hkmd : decide ((m : Int) ≤ k) = true := decide_eq_true hkm
        have HE : Hid (nextE7 l id k = 2) := Lib.hid (by rw [HE1.out, if_pos (.inr hkm)])
        have HJ := Lib.hid (NOJ.out (by rw [HE.out]; decide))
        go_wp2_with fail
        refine bodyPost_ret (results_2_tmp rfl _ _ w.heap.size rfl (heap_set2 X18.out _ _) Try.underlying66 infoJoin2 (.int .i64 2) rfl) rfl ⟨FIN.out 0 0 2 _ rfl HE.out HJ.out, below_set2 B8.out (Nat.le_refl _) _ _⟩
      · have hkmd : decide ((m : Int) ≤ k) = false := decide_eq_false hkm
        have HE : Hid (nextE7 l id k = 0) := Lib.hid (by rw [HE1.out, if_neg (fun h => h.elim hk0 hkm)])
        obtain ⟨j, rfl⟩ : ∃ j : Nat, k = (j : Int) := ⟨k.toNat, by omega⟩
        have hjr : j < es.length := by rw [← HMM.out]; omega
        obtain ⟨b, o, rfl, hb, hc0, hc1⟩ := HU8.out.at hjr
        obtain ⟨x, y, hxy⟩ : ∃ x y, es[j] = (x, y) := ⟨_, _, rfl⟩
        rw [hxy] at hc0 hc1
        dsimp only at hc0 hc1
        have hg0 : q8.cell? ⟨b, o + j * 2, none⟩ = some (.int .i64 x) := hc0
        have hg1 : q8.cell? ⟨b, o + j * 2 + 1, none⟩ = some (.int .i64 y) := hc1
        have HJ : Hid (nextJ7 l id (j : Int) = (x, y)) := Lib.hid (by rw [HJ0.out, HE.out, if_pos rfl, Int.toNat_natCast, List.getD_eq_getElem?_getD, List.getElem?_eq_getElem hjr, hxy]; rfl)
        have hjm : (j : Int) < m := by omega
        clear hc0 hc1 hxy hb hk0 hkm
        go_wp2_with fail
        refine bodyPost_ret (results_2_tmp rfl _ _ w.heap.size rfl (heap_set2 X18.out _ _) Try.underlying66 infoJoin2 (.int .i64 0) rfl) rfl ⟨FIN.out x y 0 _ rfl HE.out HJ.out, below_set2 B8.out (Nat.le_refl _) _ _⟩
  · have HE : Hid (nextE7 l id k = E) := Lib.hid (by rw [HE0.out, if_neg hE])
    have HJ := Lib.hid (NOJ.out (by rw [HE.out]; exact hE))
    have hEb : (E != 0) = true := by simpa using hE
    clear hE
    go_wp2_with fail
    refine bodyPost_ret (results_2_tmp rfl _ _ w.heap.size rfl (heap_set2 X18.out _ _) Try.underlying66 infoJoin2 (.int .i64 E) rfl) rfl ⟨FIN.out 0 0 E _ rfl HE.out HJ.out, below_set2 B8.out (Nat.le_refl _) _ _⟩
end Go.Proofs.Ythlolpflgninjaa
