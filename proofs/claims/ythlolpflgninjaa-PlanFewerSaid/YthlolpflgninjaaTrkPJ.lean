/-
  The program's package track: copies of ends, Find, Next; all its contracts in one.
  Conditions: none.
-/
import Derived.Test.YthlolpflgninjaaTrkPI
set_option linter.unusedVariables false
set_option linter.unusedSimpArgs false
set_option maxRecDepth 100000
namespace Go.Proofs.Ythlolpflgninjaa
open Go.RowKit

theorem clone7_any (v : Value) (l : List Jn) (w : World) (h : JoinsIn w w.heap.size v l) (hl : l.length ≤ 1000) :
    Calls Try.prog 80 #[v] w fun e w' => ∃ u, e = .returned u ∧ JoinsOwn w' w.heap.size u l ∧ Below w.heap.size w w' := by
  have H := Lib.hid h
  have HLEN := Lib.hid hl
  obtain ⟨A, cap, rfl, -, -, hn, -⟩ := h
  cases A with
  | none =>
    obtain rfl := hn rfl
    have hx : l = [] := by obtain ⟨A', c', e, h1, _⟩ := H.out; cases e; exact List.eq_nil_of_length_eq_zero (by omega)
    subst hx
    have he : ∀ w : World, (binOp .eql 62 (.slice none 0 0) (.slice none 0 0)).run Try.prog w = .ok (.bool true) w := fun _ => rfl
    go_enter Try.func80, Try.ntmps80
    go_wp2_with fail
    go_ret
    exact ⟨_, rfl, ListOwn.nil_, Below.refl _ _⟩
  | some a =>
    obtain ⟨i0, hi, hz0, hz1, hz2⟩ := info_parts infoJoin
    have I0 := Lib.hid hi
    have I1 := Lib.hid hz0
    have I2 := Lib.hid hz1
    have I3 := Lib.hid hz2
    obtain ⟨n, hn2⟩ : ∃ n, n = l.length := ⟨_, rfl⟩
    have HN := Lib.hid hn2
    have HA : Hid (JoinsIn w w.heap.size (.slice (some a) n cap) l) := Lib.hid (by rw [hn2]; exact H.out)
    rw [← hn2]
    have he : ∀ w : World, (binOp .eql 62 (.slice (some a) n cap) (.slice none 0 0)).run Try.prog w = .ok (.bool false) w := fun _ => rfl
    have hq0 := heap_alloc_self w (.cells #[] 66)
    have hqb := below_new w (.cells #[] 66)
    obtain ⟨yss, hy1, hy2, hy3, hy4, hy5, hy6, hy7⟩ := ((HA.out.below joinR hqb).more joinR hqb.size).cells (by omega) joinR_full joinR_cells
    have Y1 := Lib.hid hy1
    have Y2 := Lib.hid hy2
    have Y3 := Lib.hid hy3
    have Y4 := Lib.hid hy4
    have Y6 := Lib.hid hy6
    have Y7 := Lib.hid hy7
    have YL : Hid (yss.flatten.length = n * 2) := Lib.hid (by rw [flat_length _ hy2, hy1, HN.out])
    have Q0 := Lib.hid hq0
    have QB := Lib.hid hqb
    have NL : Hid (n ≤ 1000) := Lib.hid (by rw [HN.out]; exact HLEN.out)
    clear hi hz0 hz1 hz2 hn hl hn2 H hy1 hy2 hy3 hy4 hy5 hy6 hy7 hq0 hqb
    go_enter Try.func80, Try.ntmps80
    go_wp2_with ((with_reducible show wpList _ _ _ (⟨some 7, _, _, _, _, _⟩ :: _) _ _); refine wpList_append_list rfl (.tmp 5) (.tmp 6) _ rfl Try.underlying62 I0.out I1.out rfl I2.out (by decide) I3.out (by decide) rfl (base := w.heap.size) (n := 0) (ys := []) ⟨rfl, .inr ⟨_, _, _, rfl, Nat.le_refl _, Q0.out, Nat.zero_le _, Nat.zero_le _, rfl, rfl⟩⟩ rfl YL.out Y4.out Y7.out Y6.out (by have := NL.out; omega) QB.out.size ?_; intro v1 w1 hown1 hgrow1)
    go_ret
    rw [Nat.zero_add, List.nil_append] at hown1
    have hb1 : Below w.heap.size w w1 := QB.out.grown hgrow1 (by simp) (fun k hk => by cases hk; exact Nat.le_refl _)
    have hbl : Below w.heap.size (w.alloc (.cells #[] 66)) w1 := (Below.refl _ _).grown hgrow1 (by simp) (fun k hk => by cases hk; exact Nat.le_refl _)
    exact ⟨_, rfl, ⟨yss, by rw [← HN.out]; exact hown1, Y1.out, by rw [← HN.out]; have := NL.out; unfold maxLen; omega, Y2.out, fun j ys x h1 h2 => Y3.out j ys x h1 h2⟩, hb1⟩

theorem find_at {l : List Sec} {id : Int} (h : mayT l = true) : (atB l id = false → findE7 l id = 6) ∧ (atB l id = true → findE7 l id = 0 ∧ findS7 l id = atV l id ∧ (atV l id).2.2.length ≤ 3) := by
  constructor
  · intro hb
    have hlt : atS l id < 0 := by have := of_decide_eq_false hb; omega
    rw [findE7, h, if_pos rfl, if_pos hlt]
  · intro hb
    have hge : ¬ atS l id < 0 := by have := of_decide_eq_true hb; omega
    have hE : findE7 l id = 0 := by rw [findE7, h, if_pos rfl, if_neg hge]
    refine ⟨hE, by rw [findS7, hE, if_pos rfl, atV, hb, if_pos rfl], ?_⟩
    rcases atS_cases l id with ha | ⟨i, hi, ha, hie⟩
    · omega
    · have hV : atV l id = l[i] := by rw [atV, hb, if_pos rfl, ha]; simp [List.getD, List.getElem?_eq_getElem hi]
      rw [hV]
      exact shaped_few ((mayT_iff.1 h).s i hi).2.2
set_option maxHeartbeats 4000000 in
theorem pfind_any (v : Value) (l : List Sec) (id : Int) (w : World) (h : SectsIn w w.heap.size v l) :
    Calls Try.prog 59 #[v, .int .i64 id] w fun e w' => ∃ u, e = .returned (.tuple #[.agg #[.int .i64 (findS7 l id).1, .int .i64 (findS7 l id).2.1, u], .int .i64 (findE7 l id)]) ∧ JoinsOwn w' w.heap.size u (findS7 l id).2.2 ∧ Below w.heap.size w w' := by
  have H := Lib.hid h
  obtain ⟨A, c, rfl, -, -⟩ := h.slice
  obtain ⟨n, hn⟩ : ∃ n, n = l.length := ⟨_, rfl⟩
  have HN := Lib.hid hn
  rw [← hn] at H ⊢
  clear h hn
  have hq0 := heap_alloc_self w (.cells #[.int .i64 0, .int .i64 0, .slice none 0 0] 64)
  have hqb := below_new w (.cells #[.int .i64 0, .int .i64 0, .slice none 0 0] 64)
  go_enter Try.func59, Try.ntmps59
  go_wp2_with fail
  obtain ⟨q, hq⟩ : ∃ q, q = w.alloc (.cells #[.int .i64 0, .int .i64 0, .slice none 0 0] 64) := ⟨_, rfl⟩
  rw [← hq] at hq0 hqb ⊢
  have QB := Lib.hid hqb
  have QS : Hid (q.heap.size = w.heap.size + 1) := Lib.hid (by rw [hq]; exact heap_alloc_size _ _)
  refine (pcheck_any _ l q ((H.out.below secR_ QB.out).more secR_ QB.out.size)).mono ?_
  rintro e w1 ⟨rfl, b1⟩
  have B1 := Lib.hid (QB.out.trans (b1.mono QB.out.size))
  have X1 := Lib.hid ((b1.block _ (heap_lt hq0)).trans hq0)
  have S1 : Hid (w.heap.size + 1 ≤ w1.heap.size) := Lib.hid (by have := b1.size; have := QS.out; omega)
  clear b1 hq0 hqb hq
  obtain ⟨r0, r1, r2⟩ := cell3_of X1.out
  have f0 := frozen2_of X1.out 0
  have f1 := frozen2_of X1.out 1
  have f2 := frozen2_of X1.out 2
  have BAD : Hid (∀ (E : Int) (u : World), findE7 l id = E → E ≠ 0 → Below w.heap.size w u → ∃ x, Ending.returned (.tuple #[.agg #[.int .i64 0, .int .i64 0, .slice none 0 0], .int .i64 E]) = .returned (.tuple #[.agg #[.int .i64 (findS7 l id).1, .int .i64 (findS7 l id).2.1, x], .int .i64 (findE7 l id)]) ∧ JoinsOwn u w.heap.size x (findS7 l id).2.2 ∧ Below w.heap.size w u) := Lib.hid (fun E u hE h0 hb => by
    have hs : findS7 l id = (0, 0, []) := by rw [findS7, hE, if_neg h0]
    rw [hs, hE]
    exact ⟨_, rfl, ListOwn.nil_, hb⟩)
  cases hm : mayT l with
  | false =>
    have HE : Hid (findE7 l id = 8) := Lib.hid (by rw [findE7, hm]; rfl)
    have hc : chkT l = 8 := by rw [chkT, hm]; rfl
    clear hm
    go_wp2_with fail
    exact bodyPost_ret (results_3_tmp rfl _ _ w.heap.size rfl (heap_set3 X1.out _ _ _) Try.underlying64 infoSec3 (.int .i64 8) rfl) rfl (BAD.out 8 _ HE.out (by decide) (below_set3 B1.out (Nat.le_refl _) _ _ _))
  | true =>
    have hc : chkT l = 0 := by rw [chkT, hm]; rfl
    have FA := Lib.hid (find_at (id := id) hm)
    have TM := Lib.hid (mayT_iff.1 hm)
    have HI1 := Lib.hid ((H.out.below secR_ B1.out).more secR_ B1.out.size)
    clear hm
    go_wp2_with fail
    refine (at_any _ l id w1 HI1.out (may_three.1 TM.out).2.1.rises TM.out.n).mono ?_
    rintro e w2 ⟨x, rfl, hx, b2⟩
    have B2 := Lib.hid (B1.out.trans (b2.mono B1.out.size))
    have X2 := Lib.hid ((b2.block _ (heap_lt X1.out)).trans X1.out)
    have S2 : Hid (w.heap.size + 1 ≤ w2.heap.size) := Lib.hid (by have := b2.size; have := S1.out; omega)
    generalize hav : atV l id = s at hx
    have HAV := Lib.hid hav
    obtain ⟨u, rfl, hu⟩ := hx
    obtain ⟨Au, cu, rfl, -, -⟩ := hu.slice
    obtain ⟨sid, pt, es⟩ := s
    dsimp only at hu ⊢
    obtain ⟨m, hm⟩ : ∃ m, m = es.length := ⟨_, rfl⟩
    have HM := Lib.hid hm
    have HU : Hid (JoinsIn w2 w2.heap.size (.slice Au m cu) es) := Lib.hid (by rw [hm]; exact hu)
    rw [← hm]
    clear b2 r0 r1 r2 f0 f1 f2 hav hu hm hc
    have hy0 := heap_alloc_self w2 (.cells #[.int .i64 sid, .int .i64 pt, .slice Au m cu] 64)
    have hyb := below_new w2 (.cells #[.int .i64 sid, .int .i64 pt, .slice Au m cu] 64)
    obtain ⟨q7, hq7⟩ : ∃ q7, q7 = w2.alloc (.cells #[.int .i64 sid, .int .i64 pt, .slice Au m cu] 64) := ⟨_, rfl⟩
    rw [← hq7] at hy0 hyb
    go_upto_region 5 with fail
    rw [← hq7]
    have B7 := Lib.hid (B2.out.trans (hyb.mono B2.out.size))
    have X7 := Lib.hid hy0
    have X27 := Lib.hid ((hyb.block _ (heap_lt X2.out)).trans X2.out)
    have HU7 := Lib.hid ((HU.out.below joinR hyb).more joinR hyb.size)
    have S7 : Hid (w.heap.size + 1 ≤ w2.heap.size ∧ q7.heap.size = w2.heap.size + 1) := Lib.hid ⟨S2.out, by rw [hq7]; exact heap_alloc_size _ _⟩
    generalize hp7 : w2.heap.size = p7 at X7 S7 ⊢
    clear hy0 hyb hq7 hp7
    cases hg : atB l id with
    | false =>
      have HE := Lib.hid (FA.out.1 hg)
      obtain ⟨r0, r1, r2⟩ := cell3_of X27.out
      have f0 := frozen2_of X27.out 0
      have f1 := frozen2_of X27.out 1
      have f2 := frozen2_of X27.out 2
      clear hg
      go_wp2_with fail
      exact bodyPost_ret (results_3_tmp rfl _ _ w.heap.size rfl (heap_set3 X27.out _ _ _) Try.underlying64 infoSec3 (.int .i64 6) rfl) rfl (BAD.out 6 _ HE.out (by decide) (below_set3 B7.out (Nat.le_refl _) _ _ _))
    | true =>
      have HE := Lib.hid (FA.out.2 hg)
      obtain ⟨k0, k1, k2⟩ := cell3_of X7.out
      clear hg
      go_wp2_with fail
      refine (clone7_any _ es q7 (HU7.out) (by have := HE.out.2.2; rw [HAV.out] at this; dsimp only at this; omega)).mono ?_
      rintro e w3 ⟨u3, rfl, hu3, b3⟩
      obtain ⟨A3, c3, rfl⟩ := hu3.slice
      rw [← HM.out]
      have O3 : Hid (JoinsOwn w3 q7.heap.size (.slice A3 m c3) es) := Lib.hid (by rw [HM.out]; exact hu3)
      have B3 := Lib.hid (B7.out.trans (b3.mono B7.out.size))
      have X3 := Lib.hid ((b3.block _ (heap_lt X7.out)).trans X7.out)
      have X23 := Lib.hid ((b3.block _ (heap_lt X27.out)).trans X27.out)
      clear hu3 b3 k0 k1 k2
      have f2 := frozen2_of X3.out 2
      obtain ⟨k0, k1, k2⟩ := cell3_of X3.out
      have hx8 := heap_setK (k := 2) X3.out (.slice A3 m c3)
      have hb8 := below_set B3.out (show w.heap.size ≤ p7 by have := S7.out; omega) 2 (.slice A3 m c3)
      have hx28 := (heap_setFar w3 p7 2 w.heap.size (.slice A3 m c3) (by have := S7.out; omega)).trans X23.out
      obtain ⟨yss, ho, hl, hmx, hs2, hr⟩ := O3.out
      have ho8 := ho.kept (grown_set w3 p7 2 (.slice A3 m c3)) (by
        cases hv : (Value.slice A3 m c3).ownBlock with
        | none => exact .inl rfl
        | some k => refine .inr (fun e => ?_); injection e with e; have := own_ge ho _ hv; have := S7.out; omega)
      obtain ⟨q8, hq8⟩ : ∃ q8, q8 = w3.setCell ⟨p7, 2, none⟩ (.slice A3 m c3) := ⟨_, rfl⟩
      rw [← hq8] at hx8 hb8 hx28 ho8
      go_upto_region 8 with fail
      rw [← hq8]
      have hx8' : q8.heap[p7]? = some (.cells #[.int .i64 sid, .int .i64 pt, .slice A3 m c3] 64 (0, 0)) := hx8
      have X28 := Lib.hid hx28
      have B8 := Lib.hid hb8
      have O8 := Lib.hid ho8
      have OR := Lib.hid (And.intro hl (And.intro hmx (And.intro hs2 hr)))
      clear k0 k1 k2 f2 hx8 hb8 hx28 ho hl hmx hs2 hr hq8 ho8
      obtain ⟨k0, k1, k2⟩ := cell3_of hx8'
      obtain ⟨r0, r1, r2⟩ := cell3_of X28.out
      have f0 := frozen2_of X28.out 0
      have f1 := frozen2_of X28.out 1
      have f2 := frozen2_of X28.out 2
      clear hx8'
      go_wp2_with fail
      refine bodyPost_ret (results_3_tmp rfl _ _ w.heap.size rfl (heap_set3 X28.out _ _ _) Try.underlying64 infoSec3 (.int .i64 0) rfl) rfl ⟨.slice A3 m c3, by rw [HE.out.1, HE.out.2.1, HAV.out], ?_, below_set3 B8.out (Nat.le_refl _) _ _ _⟩
      rw [HE.out.2.1, HAV.out]
      obtain ⟨hl, hmx, hs2, hr⟩ := OR.out
      refine ⟨yss, owns_mono (O8.out.kept (grown_set3 q8 w.heap.size (.int .i64 sid) (.int .i64 pt) (.slice A3 m c3)) ?_) (by have := S7.out; omega), hl, hmx, hs2, fun j ys x h1 h2 => hr j ys x h1 h2⟩
      cases hv : (Value.slice A3 m c3).ownBlock with
      | none => exact .inl rfl
      | some k => refine .inr (fun e => ?_); injection e with e; have := own_ge O8.out _ hv; have := S7.out; omega

set_option maxHeartbeats 4000000 in
theorem pnext_any (v : Value) (l : List Sec) (id k : Int) (w : World) (h : SectsIn w w.heap.size v l) :
    Calls Try.prog 26 #[v, .int .i64 id, .int .i64 k] w fun e w' => e = .returned (.tuple #[.agg #[.int .i64 (nextJ7 l id k).1, .int .i64 (nextJ7 l id k).2], .int .i64 (nextE7 l id k)]) ∧ Below w.heap.size w w' := by
  have H := Lib.hid h
  obtain ⟨A, c, rfl, -, -⟩ := h.slice
  obtain ⟨n, hn⟩ : ∃ n, n = l.length := ⟨_, rfl⟩
  rw [← hn] at H ⊢
  clear h hn
  have hq0 := heap_alloc_self w (.cells #[.int .i64 0, .int .i64 0] 66)
  have hqb := below_new w (.cells #[.int .i64 0, .int .i64 0] 66)
  go_enter Try.func26, Try.ntmps26
  go_wp2_with fail
  obtain ⟨q, hq⟩ : ∃ q, q = w.alloc (.cells #[.int .i64 0, .int .i64 0] 66) := ⟨_, rfl⟩
  rw [← hq] at hq0 hqb ⊢
  have QB := Lib.hid hqb
  refine (pfind_any _ l id q ((H.out.below secR_ QB.out).more secR_ QB.out.size)).mono ?_
  rintro e w1 ⟨u, rfl, hu, b1⟩
  obtain ⟨Au, cu, rfl⟩ := hu.slice
  have HE0 : Hid (nextE7 l id k = if findE7 l id = 0 then (if leadsB (findS7 l id) k then 0 else 2) else findE7 l id) := Lib.hid (by
    rw [nextE7]
    split
    · by_cases hk : k < 0 ∨ ((findS7 l id).2.2.length : Int) ≤ k
      · rw [if_pos hk, show leadsB (findS7 l id) k = false from decide_eq_false (by omega)]; rfl
      · rw [if_neg hk, show leadsB (findS7 l id) k = true from decide_eq_true (by omega)]; rfl
    · rfl)
  have HJ0 : Hid (nextJ7 l id k = if nextE7 l id k = 0 then (findS7 l id).2.2.getD k.toNat (0, 0) else (0, 0)) := Lib.hid rfl
  generalize findS7 l id = s at hu HE0 HJ0 ⊢
  generalize findE7 l id = E at HE0 ⊢
  obtain ⟨a, p, es⟩ := s
  dsimp only at hu HE0 HJ0 ⊢
  obtain ⟨m, hm⟩ : ∃ m, m = es.length := ⟨_, rfl⟩
  have HUI : Hid (JoinsIn w1 w1.heap.size (.slice Au m cu) es) := Lib.hid (by rw [hm]; exact hu.in_ joinR_cells)
  rw [← hm]
  have B1 := Lib.hid (QB.out.trans (b1.mono QB.out.size))
  have X1 := Lib.hid ((b1.block _ (heap_lt hq0)).trans hq0)
  clear b1 hq0 hqb hq hu hm
  have hy0 := heap_alloc_self w1 (.cells #[.int .i64 a, .int .i64 p, .slice Au m cu] 64)
  have hyb := below_new w1 (.cells #[.int .i64 a, .int .i64 p, .slice Au m cu] 64)
  obtain ⟨q8, hq8⟩ : ∃ q8, q8 = w1.alloc (.cells #[.int .i64 a, .int .i64 p, .slice Au m cu] 64) := ⟨_, rfl⟩
  rw [← hq8] at hy0 hyb
  go_upto_region 2 with fail
  rw [← hq8]
  have B8 := Lib.hid (B1.out.trans (hyb.mono B1.out.size))
  have X8 := Lib.hid hy0
  have X18 := Lib.hid ((hyb.block _ (heap_lt X1.out)).trans X1.out)
  have HU8 : Hid (SecV q8 q8.heap.size (.agg #[.int .i64 a, .int .i64 p, .slice Au m cu]) (a, p, es)) := Lib.hid ⟨_, rfl, (HUI.out.below joinR hyb).more joinR hyb.size⟩
  generalize w1.heap.size = p8 at X8 ⊢
  clear hy0 hyb hq8 HUI
  obtain ⟨k0, k1, k2⟩ := cell3_of X8.out
  have FIN : Hid (∀ (x y F : Int) (o : Ending), o = .returned (.tuple #[.agg #[.int .i64 x, .int .i64 y], .int .i64 F]) → nextE7 l id k = F → nextJ7 l id k = (x, y) → o = .returned (.tuple #[.agg #[.int .i64 (nextJ7 l id k).1, .int .i64 (nextJ7 l id k).2], .int .i64 (nextE7 l id k)])) := Lib.hid (fun x y F o h1 h2 h3 => by rw [h1, h2, h3])
  have NOJ : Hid (nextE7 l id k ≠ 0 → nextJ7 l id k = (0, 0)) := Lib.hid (fun h => by rw [nextJ7, if_neg h])
  by_cases hE : E = 0
  · subst hE
    have HE1 := Lib.hid (HE0.out.trans (if_pos rfl))
    clear HE0
    go_wp2_with fail
    refine (leads_any _ (a, p, es) k q8 HU8.out).mono ?_
    rintro e w2 ⟨rfl, b2⟩
    have B2 := Lib.hid (B8.out.trans (b2.mono B8.out.size))
    have X12 := Lib.hid ((b2.block _ (heap_lt X18.out)).trans X18.out)
    clear b2 k0 k1 k2
    have HLJ : Hid (leadsJ (a, p, es) k = if leadsB (a, p, es) k then es.getD k.toNat (0, 0) else (0, 0)) := Lib.hid rfl
    generalize leadsJ (a, p, es) k = y at HLJ ⊢
    obtain ⟨y1, y2⟩ := y
    have hz0 := heap_alloc_self w2 (.cells #[.int .i64 y1, .int .i64 y2] 66)
    have hzb := below_new w2 (.cells #[.int .i64 y1, .int .i64 y2] 66)
    obtain ⟨q9, hq9⟩ : ∃ q9, q9 = w2.alloc (.cells #[.int .i64 y1, .int .i64 y2] 66) := ⟨_, rfl⟩
    rw [← hq9] at hz0 hzb
    go_upto_region 5 with fail
    rw [← hq9]
    have B9 := Lib.hid (B2.out.trans (hzb.mono B2.out.size))
    have X9 := Lib.hid hz0
    have X19 := Lib.hid ((hzb.block _ (heap_lt X12.out)).trans X12.out)
    generalize w2.heap.size = p9 at X9 ⊢
    clear hz0 hzb hq9
    obtain ⟨k0, k1⟩ := cell2_of X9.out
    obtain ⟨r0, r1⟩ := cell2_of X19.out
    have f0 := frozen2_of X19.out 0
    have f1 := frozen2_of X19.out 1
    cases hg : leadsB (a, p, es) k with
    | false =>
      have HE : Hid (nextE7 l id k = 2) := Lib.hid (by rw [HE1.out, hg]; rfl)
      have HJ := Lib.hid (NOJ.out (by rw [HE.out]; decide))
      clear hg
      go_wp2_with fail
      refine bodyPost_ret (results_2_tmp rfl _ _ w.heap.size rfl (heap_set2 X19.out _ _) Try.underlying66 infoJoin2 (.int .i64 2) rfl) rfl ⟨FIN.out 0 0 2 _ rfl HE.out HJ.out, below_set2 B9.out (Nat.le_refl _) _ _⟩
    | true =>
      have HE : Hid (nextE7 l id k = 0) := Lib.hid (by rw [HE1.out, hg]; rfl)
      have HJ : Hid (nextJ7 l id k = (y1, y2)) := Lib.hid (by rw [HJ0.out, HE.out, if_pos rfl, HLJ.out, hg, if_pos rfl])
      clear hg
      go_wp2_with fail
      refine bodyPost_ret (results_2_tmp rfl _ _ w.heap.size rfl (heap_set2 X19.out _ _) Try.underlying66 infoJoin2 (.int .i64 0) rfl) rfl ⟨FIN.out y1 y2 0 _ rfl HE.out HJ.out, below_set2 B9.out (Nat.le_refl _) _ _⟩
  · have hEd : (E != 0) = true := by simpa using hE
    have HE : Hid (nextE7 l id k = E) := Lib.hid (HE0.out.trans (if_neg hE))
    have HJ := Lib.hid (NOJ.out (by rw [HE.out]; exact hE))
    obtain ⟨r0, r1⟩ := cell2_of X18.out
    have f0 := frozen2_of X18.out 0
    have f1 := frozen2_of X18.out 1
    clear HE0 hE
    go_wp2_with fail
    refine bodyPost_ret (results_2_tmp rfl _ _ w.heap.size rfl (heap_set2 X18.out _ _) Try.underlying66 infoJoin2 (.int .i64 E) rfl) rfl ⟨FIN.out 0 0 E _ rfl HE.out HJ.out, below_set2 B8.out (Nat.le_refl _) _ _⟩
end Go.Proofs.Ythlolpflgninjaa
