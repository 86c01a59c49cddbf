/-
  The walk of DevHides: a write that is kept whole hides what was kept of all ahead of it on its sector.
  Conditions: none.
-/
import Derived.Test.YtdpjdobmnkadjaaDevAlive
import Derived.Test.YtdpjdobmnkadjaaDevBox
import Derived.Test.YtdpjdobmnkadjaaDevHidesM
import Derived.Deep.CutRange
set_option linter.unusedVariables false
set_option linter.unusedSimpArgs false
namespace Go.Proofs.Ytdpjdobmnkadjaa
open Go.RowKit

theorem wpList_append_src {P : Program} {w : World} {ops : Array Oper} {rest : List Oper} {o : Oper} {a : Act} {Q : Exit → Act → World → Prop} (hgd : o.guard = none) (s x : Operand) (t : TypeId)
    (ho : o.op = .call { callee := .builtin .append, args := #[s, x], argTypes := #[t, t] })
    {base e size bytes : Nat} {i : TypeInfo} {z : Value} (ht : P.underlying t = some (.slice e)) (hi : P.info? e = some i) (hz : i.zero = some z) (hzs : z.cells.size = size) (hsize : i.size = size) (hsz : 0 < size) (hby : i.bytes = bytes) (hb8 : bytes ≤ 100)
    {v : Value} {n m : Nat} {ys : List Value} (hs : a.eval s = v) (hown : w.ownsRow base e size v n ys) {b : Addr} {c : Nat} {news : List Value} (hu : a.eval x = .slice (some b) m c) (hl : news.length = m * size)
    (hc : ∀ j u, news[j]? = some u → w.cell? (b.add j) = some u) (h1 : ∀ u ∈ news, u.oneCell' = true) (h63 : n + m ≤ 100000) (hbase : base ≤ w.heap.size)
    (h : ∀ v' w', w'.ownsRow base e size v' (n + m) (ys ++ news) → w.grownBy w' v.ownBlock → wpList P ops Q rest (a.put o.dst v') w') : wpList P ops Q (o :: rest) a w := by
  refine wpList_plain hgd fun K hK => ?_
  obtain ⟨v', w', hrun, h2, h3, _⟩ := run_append_own (P := P) w base t o.type e i z size bytes ht hi hz hsize hby hzs hsz v n ys hown b m c news hl hc h1 (by unfold maxLen; omega)
    (by have := Nat.mul_le_mul h63 hb8; omega) hbase
  unfold Oper.wp execOp
  simp only [ho, resolve, invoke, builtin, Sem.run_bind, Sem.run_pure, Result.andThen_ok, List.map_toArray, List.map_cons, List.map_nil, hs, hu, hrun]
  exact hK _ _ (h v' w' h2 h3)

def i64c (k : Int) : Value := .int .i64 k
theorem nums_of_own {W : World} {base : Nat} {v : Value} {ks : List Int} (h : W.ownsRow base 3 1 v ks.length (ks.map i64c)) (hl : ks.length ≤ maxLen) : NumsIn W W.heap.size v ks := by
  have ho := h
  rcases h.2 with ⟨rfl, h0⟩ | ⟨g, cap, cur, rfl, _, hgb, hcap, hcur⟩
  · obtain rfl : ks = [] := List.eq_nil_of_length_eq_zero h0
    exact ⟨none, 0, rfl, Nat.le_refl _, Nat.zero_le _, fun _ => rfl, fun h => absurd h (by simp)⟩
  · refine ⟨_, cap, rfl, hcap, hcur.1, fun h => (by cases h), fun _ => ⟨g, 0, rfl, heap_lt hgb, fun j hj => ?_⟩⟩
    rw [Nat.zero_add, ho.cellAt j (by omega), List.getElem?_map, List.getElem?_eq_getElem hj]
    rfl
theorem nums_cells {W : World} {B c : Nat} {b : Addr} {ks : List Int} (h : NumsIn W B (.slice (some b) ks.length c) ks) : ∀ j u, (ks.map i64c)[j]? = some u → W.cell? (b.add j) = some u := by
  intro j u hj
  obtain ⟨hlt, he⟩ := List.getElem?_eq_some_iff.1 hj
  rw [List.length_map] at hlt
  obtain ⟨b', off, e, _, hc⟩ := h.at hlt
  cases e
  rw [Addr.add_lit, hc, ← he, List.getElem_map]
  rfl
theorem own_some {W : World} {base e size n : Nat} {v : Value} {ys : List Value} (h : W.ownsRow base e size v n ys) (hn : 0 < n) : ∃ g c cur, v = .slice (some ⟨g, 0, none⟩) n c ∧ base ≤ g ∧ W.heap[g]? = some (.cells cur e (0, 0)) ∧ n ≤ c := by
  rcases h.2 with ⟨rfl, h0⟩ | ⟨g, cap, cur, rfl, hb, hgb, hcap, _⟩
  · omega
  · exact ⟨g, cap, cur, rfl, hb, hgb, hcap⟩
theorem map_set_i (ks : List Int) (j : Nat) (k : Int) : (ks.map i64c).set j (.int .i64 k) = (ks.set j k).map i64c := by rw [List.map_set]; rfl

/-- A list of numbers, taken from another one where the sector is that. -/
def mix (ws : List Wr) (a : Int) (ka kb : List Int) (lo hi : Nat) : List Int := (List.range kb.length).map fun j => if lo ≤ j ∧ j < hi ∧ (ws.getD j (0, [])).1 = a then ka.getD j 0 else kb.getD j 0
theorem mix_length (ws : List Wr) (a : Int) (ka kb : List Int) (lo hi : Nat) : (mix ws a ka kb lo hi).length = kb.length := by simp [mix]
theorem mix_at {ws : List Wr} {a : Int} {ka kb : List Int} {lo hi j : Nat} (h : j < kb.length) : (mix ws a ka kb lo hi)[j]? = some (if lo ≤ j ∧ j < hi ∧ (ws.getD j (0, [])).1 = a then ka.getD j 0 else kb.getD j 0) := by
  rw [mix, List.getElem?_map, List.getElem?_range h]; rfl
theorem mix_start (ws : List Wr) (a : Int) (ka kb : List Int) (lo : Nat) : mix ws a ka kb lo lo = kb := by
  apply List.ext_getElem?
  intro j
  by_cases h : j < kb.length
  · rw [mix_at h, if_neg (by omega), List.getD_eq_getElem?_getD, List.getElem?_eq_getElem h]; rfl
  · rw [List.getElem?_eq_none (by rw [mix_length]; omega), List.getElem?_eq_none (by omega)]
theorem mix_same {ws : List Wr} {a : Int} {ka kb : List Int} {lo i : Nat} (hi : i < ws.length) (h : ¬ (ws[i]).1 = a) : mix ws a ka kb lo (i + 1) = mix ws a ka kb lo i := by
  apply List.ext_getElem?
  intro j
  by_cases hj : j < kb.length
  · rw [mix_at hj, mix_at hj]
    by_cases he : j = i
    · subst he
      have : (ws.getD j (0, [])).1 = (ws[j]).1 := by rw [List.getD_eq_getElem?_getD, List.getElem?_eq_getElem hi]; rfl
      rw [if_neg (by rw [this]; exact fun h' => h h'.2.2), if_neg (by omega)]
    · congr 1
      by_cases hc : lo ≤ j ∧ j < i ∧ (ws.getD j (0, [])).1 = a
      · rw [if_pos hc, if_pos ⟨hc.1, by omega, hc.2.2⟩]
      · rw [if_neg hc, if_neg (fun h' => hc ⟨h'.1, by omega, h'.2.2⟩)]
  · rw [List.getElem?_eq_none (by rw [mix_length]; omega), List.getElem?_eq_none (by rw [mix_length]; omega)]
theorem mix_set {ws : List Wr} {a : Int} {ka kb : List Int} {lo i : Nat} (hi : i < ws.length) (hl : lo ≤ i) (hk : i < kb.length) (hka : i < ka.length) (h : (ws[i]).1 = a) : mix ws a ka kb lo (i + 1) = (mix ws a ka kb lo i).set i ka[i] := by
  apply List.ext_getElem?
  intro j
  by_cases hj : j < kb.length
  · by_cases he : j = i
    · subst he
      have : (ws.getD j (0, [])).1 = a := by rw [List.getD_eq_getElem?_getD, List.getElem?_eq_getElem hi]; exact h
      rw [mix_at hj, if_pos ⟨hl, by omega, this⟩, List.getElem?_set_self (by rw [mix_length]; exact hj), List.getD_eq_getElem?_getD, List.getElem?_eq_getElem hka]; rfl
    · rw [List.getElem?_set_ne (by omega), mix_at hj, mix_at hj]
      congr 1
      by_cases hc : lo ≤ j ∧ j < i ∧ (ws.getD j (0, [])).1 = a
      · rw [if_pos hc, if_pos ⟨hc.1, by omega, hc.2.2⟩]
      · rw [if_neg hc, if_neg (fun h' => hc ⟨h'.1, by omega, h'.2.2⟩)]
  · rw [List.getElem?_eq_none (by rw [mix_length]; omega), List.getElem?_eq_none (by rw [List.length_set, mix_length]; omega)]
theorem mix_fit {ws : List Wr} {a : Int} {ka kb : List Int} {lo hi : Nat} (ha : ∀ k ∈ ka, fitK k) (hb : ∀ k ∈ kb, fitK k) : ∀ k ∈ mix ws a ka kb lo hi, fitK k := by
  have g : ∀ (l : List Int), (∀ k ∈ l, fitK k) → ∀ j, fitK (l.getD j 0) := fun l hl j => by
    by_cases h : j < l.length
    · rw [List.getD_eq_getElem?_getD, List.getElem?_eq_getElem h]; exact hl _ (List.getElem_mem h)
    · rw [List.getD_eq_getElem?_getD, List.getElem?_eq_none (by omega)]; decide
  intro k hk
  obtain ⟨j, _, rfl⟩ := List.mem_map.1 hk
  split
  · exact g _ ha _
  · exact g _ hb _

theorem secs_turnedI {W W' : World} {lo g : Nat} {v : Value} {ss : List Bs} {cur : Array Value} (h : SecsAt W lo v ss) (hc : W.heap[g]? = some (.cells cur 3 (0, 0))) (hg : W.grownBy W' (some g)) : SecsAt W' lo v ss := secs_turnedRow h hc (by decide) (by decide) hg
theorem hides_sector {ss : List Bs} {ws : List Wr} {ks os KB : List Int} {m a i : Nat} (hm : May ss ws) (hA : crashE ss ws (ks.set m 128) = 0) (hB : crashE ss ws KB = 0) (hK : KB = mix ws (a : Int) (ks.set m 128) (os.set m 128) (m + 1) i) (hk : m < ks.length) (ho : m < os.length) {hmw : m < ws.length} (hat : (a : Int) = (ws[m]).1) (hi : i = ws.length := by omega) (hol : os.length = ws.length := by omega) :
    ∃ (h1 : a < (crashS ss ws (ks.set m 128)).length) (h2 : a < (crashS ss ws KB).length), (crashS ss ws (ks.set m 128))[a] = (crashS ss ws KB)[a] := by
  obtain ⟨_, hla, _⟩ := crashE_may hA
  obtain ⟨_, hlb, _⟩ := crashE_may hB
  have hok := hm.w _ (List.getElem_mem hmw)
  have ha32 : a < ss.length := by have := hm.n; have := hok.2.1; omega
  have hca : crashS ss ws (ks.set m 128) = comes ss ws ((ks.set m 128).map Int.toNat) := by rw [crashS, if_pos hA]
  have hcb : crashS ss ws KB = comes ss ws (KB.map Int.toNat) := by rw [crashS, if_pos hB]
  have h1 : a < (crashS ss ws (ks.set m 128)).length := by rw [hca, comes, layAll_length]; exact ha32
  have h2 : a < (crashS ss ws KB).length := by rw [hcb, comes, layAll_length]; exact ha32
  refine ⟨h1, h2, ?_⟩
  have ea : (crashS ss ws (ks.set m 128))[a]? = some (seeAll ss[a] a (piecesOf ws ((ks.set m 128).map Int.toNat))) := by rw [hca, comes, layAll_at, List.getElem?_eq_getElem ha32]; rfl
  have eb : (crashS ss ws KB)[a]? = some (seeAll ss[a] a (piecesOf ws (KB.map Int.toNat))) := by rw [hcb, comes, layAll_at, List.getElem?_eq_getElem ha32]; rfl
  rw [List.getElem?_eq_getElem h1] at ea
  rw [List.getElem?_eq_getElem h2] at eb
  rw [Option.some.inj ea, Option.some.inj eb]
  have hna : (ws[m]).1.toNat = a := by omega
  subst hna
  refine hides hm (by rw [List.length_map]; exact hla) (by rw [List.length_map]; exact hlb) hmw ?_ ?_ (fun j hj hmj he => ?_) (hm.s _ (List.getElem_mem _))
  · rw [List.getElem?_map, List.getElem?_set_self hk]; rfl
  · rw [hK, List.getElem?_map, mix_at (by rw [List.length_set]; exact ho), if_neg (by omega), List.getD_eq_getElem?_getD, List.getElem?_set_self ho]; rfl
  · have hja : j < (ks.set m 128).length := by omega
    have hjo : j < (os.set m 128).length := by rw [List.length_set]; omega
    have hd : (ws.getD j (0, [])).1 = ((ws[m]).1.toNat : Int) := by rw [List.getD_eq_getElem?_getD, List.getElem?_eq_getElem hj]; show (ws[j]).1 = _; rw [he, hat]
    rw [hK, List.getElem?_map, List.getElem?_map, mix_at hjo, if_pos ⟨by omega, by omega, hd⟩, List.getD_eq_getElem?_getD, List.getElem?_eq_getElem hja]; rfl

set_option maxRecDepth 100000 in
set_option maxHeartbeats 4000000 in
theorem walk_hides (d kv ov : Value) (ss : List Bs) (ws : List Wr) (ks os : List Int) (n : Int) (w : World) (h : DiskIn w w.heap.size d ss ws) (hk : NumsIn w w.heap.size kv ks) (ho : NumsIn w w.heap.size ov os) :
    Calls Try.prog 8 #[d, kv, ov, .int .i64 n] w fun e w' => e = .returned (.bool true) ∧ Below w.heap.size w w' := by
  obtain ⟨v1, v2, rfl, h1, h2⟩ := id h
  have H := Lib.hid h
  have H1 := Lib.hid h1
  have H2 := Lib.hid h2
  have K := Lib.hid hk
  have O := Lib.hid ho
  obtain ⟨A1, c1, rfl, -, -, -, -⟩ := h1
  obtain ⟨A2, c2, rfl, -, -, -, -⟩ := h2
  obtain ⟨A3, c3, rfl, -, -, -, -⟩ := hk
  obtain ⟨A4, c4, rfl, -, -, -, -⟩ := ho
  have hkl : (ks.length : Int) ≤ 9223372036854775807 := by have := K.out.le; unfold maxLen at *; omega
  have hol : (os.length : Int) ≤ 9223372036854775807 := by have := O.out.le; unfold maxLen at *; omega
  obtain ⟨i0, hi, hz0, hz1, hz2⟩ := info_parts (show (Try.prog.info? 3).map (fun i => (i.zero, i.size, i.bytes)) = some (some (.int .i64 0), 1, 8) by kernel_rfl)
  have I0 := Lib.hid hi
  have I1 := Lib.hid hz0
  have I2 := Lib.hid hz1
  have I3 := Lib.hid hz2
  clear h hi hz0 hz1 hz2
  have hq0 := heap_alloc_self w (.cells #[.slice A1 ss.length c1, .slice A2 ws.length c2] 25)
  have hqb := below_new w (.cells #[.slice A1 ss.length c1, .slice A2 ws.length c2] 25)
  go_enter Try.func8, Try.ntmps8
  go_wp2_with fail
  generalize w.alloc (.cells #[.slice A1 ss.length c1, .slice A2 ws.length c2] 25) = q at hq0 hqb ⊢
  refine (alive_true q).mono ?_
  rintro e w1 ⟨rfl, b1⟩
  have B1 := Lib.hid (hqb.trans (b1.mono hqb.size))
  have C1 := Lib.hid ((b1.block _ (heap_lt hq0)).trans hq0)
  obtain ⟨k0, k1⟩ := cell2_of C1.out
  clear hq0 hqb b1
  go_wp2_with fail
  refine (great_any _ ss ws w1 ((H.out.below B1.out).more B1.out.size)).mono ?_
  rintro e w2 ⟨⟨gr, rfl⟩, b2⟩
  have B2 := Lib.hid (B1.out.trans (b2.mono B1.out.size))
  have C2 := Lib.hid ((b2.block _ (heap_lt C1.out)).trans C1.out)
  clear b2 k0 k1 B1 C1
  obtain ⟨k0, k1⟩ := cell2_of C2.out
  cases gr with
  | true =>
    go_wp2_with fail
    go_ret
    exact ⟨rfl, B2.out⟩
  | false =>
    rcases (by omega : 1000 < (ks.length : Int) ∨ (¬ 1000 < (ks.length : Int) ∧ 1000 < (os.length : Int)) ∨ (¬ 1000 < (ks.length : Int) ∧ ¬ 1000 < (os.length : Int) ∧ n < 0) ∨ (¬ 1000 < (ks.length : Int) ∧ ¬ 1000 < (os.length : Int) ∧ ¬ n < 0 ∧ (ks.length : Int) ≤ n) ∨ (¬ 1000 < (ks.length : Int) ∧ ¬ 1000 < (os.length : Int) ∧ ¬ n < 0 ∧ ¬ (ks.length : Int) ≤ n ∧ (os.length : Int) ≤ n) ∨ (¬ 1000 < (ks.length : Int) ∧ ¬ 1000 < (os.length : Int) ∧ ¬ n < 0 ∧ ¬ (ks.length : Int) ≤ n ∧ ¬ (os.length : Int) ≤ n)) with g1 | ⟨g1, g2⟩ | ⟨g1, g2, g3⟩ | ⟨g1, g2, g3, g4⟩ | ⟨g1, g2, g3, g4, g5⟩ | ⟨g1, g2, g3, g4, g5⟩
    · go_wp2_with fail
      go_ret
      exact ⟨rfl, B2.out⟩
    · go_wp2_with fail
      go_ret
      exact ⟨rfl, B2.out⟩
    · go_wp2_with fail
      go_ret
      exact ⟨rfl, B2.out⟩
    · go_wp2_with fail
      go_ret
      exact ⟨rfl, B2.out⟩
    · go_wp2_with fail
      go_ret
      exact ⟨rfl, B2.out⟩
    · obtain ⟨m, hm⟩ : ∃ m : Nat, n = (m : Int) := ⟨n.toNat, by omega⟩
      subst hm
      have hmk : m < ks.length := by omega
      have hmo : m < os.length := by omega
      obtain ⟨bk, ok, -, rfl, -, -⟩ : ∃ b off, True ∧ A3 = some ⟨b, off, none⟩ ∧ True ∧ True := by
        obtain ⟨b, off, e, _, _⟩ := K.out.at hmk
        exact ⟨b, off, trivial, e, trivial, trivial⟩
      obtain ⟨bo, oo, -, rfl, -, -⟩ : ∃ b off, True ∧ A4 = some ⟨b, off, none⟩ ∧ True ∧ True := by
        obtain ⟨b, off, e, _, _⟩ := O.out.at hmo
        exact ⟨b, off, trivial, e, trivial, trivial⟩
      have hm0 : (m : Int) < ks.length := by omega
      have hm1 : (m : Int) < os.length := by omega
      have LK : Hid (ks.length ≤ 1000 ∧ os.length ≤ 1000) := Lib.hid (by omega)
      go_wp2_with (first
        | ((with_reducible show wpList _ _ _ (⟨some 55, _, _, _, _, _⟩ :: _) _ _); refine wpList_append_src (size := 1) rfl (.const (.slice none 0 0)) (.tmp 54) _ rfl Try.underlying36 I0.out I1.out rfl I2.out (by decide) I3.out (by decide) rfl (World.ownsRow_nil w2 w2.heap.size _ _) rfl (news := ks.map i64c) (by simp) (nums_cells (K.out.below B2.out)) (by simp [i64c, Value.oneCell']) (by have := LK.out; omega) (Nat.le_refl _) ?_; intro v4 w4 hown4 hgrow4; simp only [Nat.zero_add, List.nil_append] at hown4; obtain ⟨ga, ca, cura, hva, hga, hha, hla⟩ := own_some hown4 (by omega); subst hva; have b4 : Below w2.heap.size w2 w4 := (Below.refl _ _).grown hgrow4 (Nat.le_refl _) (fun k hk => by cases hk); have OA := Lib.hid hown4; have B4 := Lib.hid b4; have HA := Lib.hid hha; have LA := Lib.hid hga; clear hown4 hgrow4 b4 hha hga)
        | ((with_reducible show wpList _ _ _ (⟨some 57, _, _, _, _, _⟩ :: _) _ _); refine wpList_append_src (size := 1) rfl (.const (.slice none 0 0)) (.tmp 56) _ rfl Try.underlying36 I0.out I1.out rfl I2.out (by decide) I3.out (by decide) rfl (World.ownsRow_nil w4 w4.heap.size _ _) rfl (news := os.map i64c) (by simp) (nums_cells (O.out.below (B2.out.trans (B4.out.mono B2.out.size)))) (by simp [i64c, Value.oneCell']) (by have := LK.out; omega) (Nat.le_refl _) ?_; intro v5 w5 hown5 hgrow5; simp only [Nat.zero_add, List.nil_append] at hown5; obtain ⟨gb, cb, curb, hvb, hgb, hhb, hlb⟩ := own_some hown5 (by omega); subst hvb; have b5 : Below w4.heap.size w4 w5 := (Below.refl _ _).grown hgrow5 (Nat.le_refl _) (fun k hk => by cases hk); have OB := Lib.hid hown5; have B5 := Lib.hid b5; have HB := Lib.hid hhb; have LB := Lib.hid hgb; have hlt := heap_lt HA.out; have hne : gb ≠ ga := (by omega); have hne2 : ga ≠ gb := (by omega); have oa5 := owns_below OA.out b5; have hca : w5.cell? ⟨ga, m, none⟩ = some (.int .i64 ks[m]) := (by rw [oa5.cellAt m (by omega), List.getElem?_map, List.getElem?_eq_getElem hmk]; rfl); have hfa := oa5.frozenAt m; have sa := oa5.stored m (.int .i64 128); have ob6 := hown5.kept sa.2 (.inr (by intro e; exact hne (by simpa [Value.ownBlock] using e))); have hcb : (w5.setCell ⟨ga, m, none⟩ (.int .i64 128)).cell? ⟨gb, m, none⟩ = some (.int .i64 os[m]) := (by rw [ob6.cellAt m (by omega), List.getElem?_map, List.getElem?_eq_getElem hmo]; rfl); have hfb := ob6.frozenAt m; have sb := ob6.stored m (.int .i64 128); have oa7 := sa.1.kept sb.2 (.inr (by intro e; exact hne2 (by simpa [Value.ownBlock] using e))); have b6 : Below w2.heap.size w2 ((w5.setCell ⟨ga, m, none⟩ (.int .i64 128)).setCell ⟨gb, m, none⟩ (.int .i64 128)) := (below_set (below_set (B4.out.trans (B5.out.mono B4.out.size)) LA.out _ _) (Nat.le_trans B4.out.size LB.out) _ _); obtain ⟨q0, q1⟩ := cell2_of ((b6.block _ (heap_lt C2.out)).trans C2.out); have oa8 := oa7; have ob8 := sb.1; clear hown5 hgrow5 b5 hhb hgb hlt oa5 ob6 sa sb oa7))
      rw [map_set_i] at oa8 ob8
      generalize (w5.setCell ⟨ga, m, none⟩ (.int .i64 128)).setCell ⟨gb, m, none⟩ (.int .i64 128) = q6 at *
      have B6 := Lib.hid (B2.out.trans (b6.mono B2.out.size))
      have C6 := Lib.hid ((b6.block _ (heap_lt C2.out)).trans C2.out)
      have OA6 : Hid (q6.ownsRow w2.heap.size 3 1 (.slice (some ⟨ga, 0, none⟩) ks.length ca) ks.length ((ks.set m 128).map i64c)) := Lib.hid oa8
      have OB6 : Hid (q6.ownsRow w4.heap.size 3 1 (.slice (some ⟨gb, 0, none⟩) os.length cb) os.length ((os.set m 128).map i64c)) := Lib.hid ob8
      have NE := Lib.hid (show gb ≠ ga ∧ w2.heap.size ≤ ga ∧ w2.heap.size ≤ gb from ⟨hne, LA.out, Nat.le_trans B4.out.size LB.out⟩)
      clear k0 k1 b6 oa8 ob8 hne hne2 hca hfa hcb hfb HA HB LA LB OA OB B4 B5 C2
      have hka : NumsIn q6 q6.heap.size (.slice (some ⟨ga, 0, none⟩) ks.length ca) (ks.set m 128) := by
        have h1 := OA6.out
        have hl : (ks.set m 128).length = ks.length := List.length_set
        rw [← hl] at h1 ⊢
        exact nums_of_own h1 (by rw [hl]; have := LK.out; unfold maxLen; omega)
      refine (crash_any _ _ ss ws (ks.set m 128) q6 ((H.out.below B6.out).more B6.out.size) hka).mono ?_
      rintro e w7 ⟨d7, rfl, ⟨x1, x2, rfl, hxs, hxw⟩, b7⟩
      obtain ⟨A5, c5, rfl⟩ := secs_slice hxs
      obtain ⟨A6, c6, rfl⟩ := wts_slice hxw
      obtain ⟨nx, hnx⟩ : ∃ nx, nx = (crashS ss ws (ks.set m 128)).length := ⟨_, rfl⟩
      obtain ⟨ex, hex⟩ : ∃ ex, ex = crashE ss ws (ks.set m 128) := ⟨_, rfl⟩
      rw [← hnx, ← hex]
      have hn7 := below_new w7 (.cells #[.slice A5 nx c5, .slice A6 0 c6] 25)
      have hb8 : Below q6.heap.size q6 (w7.alloc (.cells #[.slice A5 nx c5, .slice A6 0 c6] 25)) := b7.trans (hn7.mono b7.size)
      have hx8 := heap_alloc_self w7 (.cells #[.slice A5 nx c5, .slice A6 0 c6] 25)
      have hs8 : SecsAt (w7.alloc (.cells #[.slice A5 nx c5, .slice A6 0 c6] 25)) q6.heap.size (.slice A5 nx c5) (crashS ss ws (ks.set m 128)) := by rw [hnx]; exact hxs.below (below_new _ _)
      obtain ⟨r0, r1⟩ := cell2_of ((hb8.block _ (heap_lt C6.out)).trans C6.out)
      have HEX := Lib.hid hex
      clear q0 q1 hka hxs hxw b7 hn7 hex hnx
      go_wp2_with fail
      generalize w7.alloc (.cells #[.slice A5 nx c5, .slice A6 0 c6] 25) = q8 at *
      have B8 := Lib.hid (B6.out.trans (hb8.mono B6.out.size))
      have C8 := Lib.hid ((hb8.block _ (heap_lt C6.out)).trans C6.out)
      have OA8 := Lib.hid (owns_below OA6.out hb8)
      have OB8 := Lib.hid (owns_below OB6.out hb8)
      have X8 := Lib.hid hx8
      have S8 := Lib.hid hs8
      have hkb : NumsIn q8 q8.heap.size (.slice (some ⟨gb, 0, none⟩) os.length cb) (os.set m 128) := by
        have h1 := OB8.out
        have hl : (os.set m 128).length = os.length := List.length_set
        rw [← hl] at h1 ⊢
        exact nums_of_own h1 (by rw [hl]; have := LK.out; unfold maxLen; omega)
      refine (crash_any _ _ ss ws (os.set m 128) q8 ((H.out.below B8.out).more B8.out.size) hkb).mono ?_
      rintro e w9 ⟨d9, rfl, ⟨x1, x2, rfl, hxs, hxw⟩, b9⟩
      obtain ⟨A7, c7, rfl⟩ := secs_slice hxs
      obtain ⟨A8, c8, rfl⟩ := wts_slice hxw
      obtain ⟨ny, hny⟩ : ∃ ny, ny = (crashS ss ws (os.set m 128)).length := ⟨_, rfl⟩
      obtain ⟨ey, hey⟩ : ∃ ey, ey = crashE ss ws (os.set m 128) := ⟨_, rfl⟩
      rw [← hny, ← hey]
      have hn9 := below_new w9 (.cells #[.slice A7 ny c7, .slice A8 0 c8] 25)
      have hb10 : Below q8.heap.size q8 (w9.alloc (.cells #[.slice A7 ny c7, .slice A8 0 c8] 25)) := b9.trans (hn9.mono b9.size)
      have HEY := Lib.hid hey
      obtain ⟨t0, t1⟩ := cell2_of ((hb10.block _ (heap_lt C8.out)).trans C8.out)
      clear r0 r1 hb8 hx8 hs8 hkb hxs hxw b9 hn9 hey hny OA6 OB6 C6 B6
      by_cases he : ex = 0
      · by_cases hf : ey = 0
        · subst he hf
          have HMA := Lib.hid (crashE_may HEX.out.symm)
          have HMB := Lib.hid (crashE_may HEY.out.symm)
          have hlk : ks.length = ws.length := by have := HMA.out.2.1; rwa [List.length_set] at this
          have hlo : os.length = ws.length := by have := HMB.out.2.1; rwa [List.length_set] at this
          have hmw : m < ws.length := by omega
          obtain ⟨g2, o2, u2, hA2, hg2, hd0, hd1, -⟩ := H2.out.at hmw
          subst hA2
          have hmw' : (m : Int) < ws.length := by omega
          have hwl : ws.length ≤ 256 := HMA.out.1.m
          have HLK := Lib.hid (show ks.length = ws.length ∧ os.length = ws.length from ⟨hlk, hlo⟩)
          have hb10' := B8.out.trans (hb10.mono B8.out.size)
          have hdm := (hb10'.cell (p := ⟨g2, o2 + m * 2, none⟩) hg2).trans hd0
          have HG2 := Lib.hid hg2
          obtain ⟨a, hat⟩ : ∃ a : Nat, (a : Int) = (ws[m]).1 := ⟨(ws[m]).1.toNat, by have := (HMA.out.1.w _ (List.getElem_mem hmw)).1; omega⟩
          rw [← hat] at hdm
          have HAT := Lib.hid hat
          have HNX := Lib.hid (show w.heap.size ≤ q8.heap.size from B8.out.size)
          clear hat hd0 hd1 hlk hlo hg2
          go_wp2_with fail
          generalize w9.alloc (.cells #[.slice A7 ny c7, .slice A8 0 c8] 25) = q10 at *
          have B10 := Lib.hid hb10'
          have C10 := Lib.hid ((hb10.block _ (heap_lt C8.out)).trans C8.out)
          have X10 := Lib.hid ((hb10.block _ (heap_lt X8.out)).trans X8.out)
          have S10 := Lib.hid (S8.out.below hb10)
          have OA10 := Lib.hid (owns_below OA8.out hb10)
          have OB10 := Lib.hid (owns_below OB8.out hb10)
          obtain ⟨kn, hkn⟩ : ∃ kn, kn = os.length := ⟨_, rfl⟩
          have hknk : ks.length = kn := by have := HLK.out; omega
          have hknw : kn = ws.length := by have := HLK.out; omega
          rw [← hkn] at OB10 ⊢
          clear hb10 hb10' hdm t0 t1 hkn
          have HKN := Lib.hid hknk
          have HKW := Lib.hid hknw
          have hmn : m < kn := by omega
          clear hknk hknw
          go_loopw [17] (fun s17 wr => ∃ i : Nat, m + 1 ≤ i ∧ i ≤ kn ∧ s17 = .int .i64 i ∧ wr.ownsRow w4.heap.size 3 1 (.slice (some ⟨gb, 0, none⟩) kn cb) kn ((mix ws (a : Int) (ks.set m 128) (os.set m 128) (m + 1) i).map i64c) ∧ q10.grownBy wr (some gb)) (fun s17 _ => kn - (intOf s17).toNat)
          case atStart => exact ⟨m + 1, by omega, by omega, by go_num, by rw [mix_start]; exact OB10.out, World.grownBy.refl _ _⟩
          case round =>
            obtain ⟨i, hi0, hi, rfl, hob, hgr⟩ := hrel
            have hcb : ∀ b c t fr, q10.heap[b]? = some (.cells c t fr) → b ≠ gb → wr.heap[b]? = some (.cells c t fr) := fun b c t fr h hne => (hgr.block b (heap_lt h) (fun e => hne (by simpa using e))).trans h
            have hC := hcb _ _ _ _ C10.out (by have := heap_lt C10.out; have := NE.out; have := C8.out; have h1 := heap_lt C8.out; have h2 := B10.out.size; intro e; have hq := (own_some OB10.out (by omega)); obtain ⟨g', c', cur', e', _, h4, _⟩ := hq; cases e'; rw [← e, C10.out] at h4; cases h4)
            obtain ⟨kc0, kc1⟩ := cell2_of hC
            have hoa : wr.ownsRow w2.heap.size 3 1 (.slice (some ⟨ga, 0, none⟩) ks.length ca) ks.length ((ks.set m 128).map i64c) := OA10.out.kept hgr (.inr (by intro e; exact NE.out.1 (by simpa [Value.ownBlock] using e.symm)))
            have HOB := Lib.hid hob
            have HOA := Lib.hid hoa
            have HGR := Lib.hid hgr
            have HC := Lib.hid hC
            clear hob hoa hgr hC hcb
            by_cases hlt : i < kn
            · have hlt' : (i : Int) < kn := by omega
              have hiw : i < ws.length := by have := HKW.out; omega
              have hiw' : (i : Int) < ws.length := by omega
              have hik : (i : Int) < ks.length := by have := HKN.out; omega
              have hik0 : i < (ks.set m 128).length := by rw [List.length_set]; omega
              have hio0 : i < (os.set m 128).length := by rw [List.length_set]; have := HLK.out; omega
              obtain ⟨g3, o3, u3, e3, hg3, hd0, hd1, -⟩ := H2.out.at hiw
              cases e3
              have hdi : wr.cell? ⟨g2, o2 + i * 2, none⟩ = some (.int .i64 (ws[i]).1) := by
                have h1 := (B10.out.cell (p := ⟨g2, o2 + i * 2, none⟩) HG2.out).trans hd0
                rw [← h1]
                exact World.cell?_of_block (HGR.out.block g2 (Nat.lt_of_lt_of_le HG2.out B10.out.size) (fun e => by
                  have e' : g2 = gb := by simpa using e
                  have h2 := (own_some OB10.out (by omega))
                  obtain ⟨g', c', cur', e4, h5, _, _⟩ := h2
                  cases e4
                  have h6 := HG2.out
                  have h7 := NE.out
                  have h8 := B2.out.size
                  omega))
              by_cases hea : (ws[i]).1 = (a : Int)
              · have hset := mix_set (ws := ws) (a := (a : Int)) (ka := ks.set m 128) (kb := os.set m 128) (lo := m + 1) hiw hi0 hio0 hik0 hea
                have hca : wr.cell? ⟨ga, i, none⟩ = some (.int .i64 (ks.set m 128)[i]) := by rw [HOA.out.cellAt i (by have := HKN.out; omega), List.getElem?_map, List.getElem?_eq_getElem hik0]; rfl
                have hml : i < (mix ws (a : Int) (ks.set m 128) (os.set m 128) (m + 1) i).length := by rw [mix_length]; exact hio0
                have hcb : wr.cell? ⟨gb, i, none⟩ = some (.int .i64 (mix ws (a : Int) (ks.set m 128) (os.set m 128) (m + 1) i)[i]) := by rw [HOB.out.cellAt i (by omega), List.getElem?_map, List.getElem?_eq_getElem hml]; rfl
                have hfb := HOB.out.frozenAt i
                have sb := HOB.out.stored i (.int .i64 (ks.set m 128)[i])
                rw [map_set_i, ← hset] at sb
                have SB := Lib.hid sb
                have heb : ((ws[i]).1 == (a : Int)) = true := by rw [beq_iff_eq]; exact hea
                rw [hea] at hdi
                obtain ⟨z, hz⟩ : ∃ z, z = (ks.set m 128)[i] := ⟨_, rfl⟩
                rw [← hz] at hca SB
                clear hset sb hd0 hd1 hea heb hz
                go_wp2_with fail
                go_roundw
                case measure => simp [intOf]; omega
                case rel => exact ⟨i + 1, by omega, by omega, by go_num, SB.out.1, ⟨HGR.out.os, HGR.out.tape, HGR.out.output, Nat.le_trans HGR.out.size SB.out.2.size, fun b hb hne => (SB.out.2.block b (Nat.lt_of_lt_of_le hb HGR.out.size) hne).trans (HGR.out.block b hb hne)⟩⟩
              · have hset := mix_same (ws := ws) (a := (a : Int)) (ka := ks.set m 128) (kb := os.set m 128) (lo := m + 1) hiw hea
                have heb : ((ws[i]).1 == (a : Int)) = false := by rw [beq_eq_false_iff_ne]; exact hea
                have SB := Lib.hid hset
                clear hset hd0 hd1
                go_wp2_with fail
                go_roundw
                case measure => simp [intOf]; omega
                case rel => exact ⟨i + 1, by omega, by omega, by go_num, by rw [SB.out]; exact HOB.out, HGR.out⟩
            · obtain rfl : i = kn := by omega
              have hlt' : ¬ (i : Int) < i := by omega
              obtain ⟨KB, hKB⟩ : ∃ KB, KB = mix ws (a : Int) (ks.set m 128) (os.set m 128) (m + 1) i := ⟨_, rfl⟩
              rw [← hKB] at HOB
              have hKl : KB.length = i := by rw [hKB, mix_length, List.length_set]; have := HLK.out; have := HKW.out; omega
              have hfit : ∀ k ∈ KB, fitK k := by rw [hKB]; exact mix_fit HMA.out.2.2 HMB.out.2.2
              have HE3 := Lib.hid (crashE_zero HMA.out.1 (show KB.length = ws.length by rw [hKl]; exact HKW.out) hfit)
              have hkb : NumsIn wr wr.heap.size (.slice (some ⟨gb, 0, none⟩) i cb) KB := by
                have h1 := HOB.out
                rw [← hKl] at h1 ⊢
                exact nums_of_own h1 (by rw [hKl]; have := HLK.out; have := HKW.out; unfold maxLen; omega)
              have hB11 : Below w.heap.size w wr := B10.out.grown HGR.out B10.out.size (fun k hk => by cases hk; have := NE.out; have := B2.out.size; omega)
              have hX11 := (HGR.out.block _ (heap_lt X10.out) (fun e => by
                obtain ⟨g', c', cur', e4, _, h4, _⟩ := own_some OB10.out (by omega)
                cases e4
                have e' : w7.heap.size = gb := by simpa using e
                rw [← e', X10.out] at h4; cases h4)).trans X10.out
              obtain ⟨g', c', cur', e4, _, h4, _⟩ := own_some OB10.out (by omega)
              cases e4
              have hS11 := secs_turnedI S10.out h4 HGR.out
              have HKB := Lib.hid hKB
              have HKL := Lib.hid hKl
              clear hKB hKl hfit h4
              have hlt2 : decide ((i : Int) < i) = false := by simp
              go_wp2_with fail
              refine (crash_any _ _ ss ws KB wr ((H.out.below hB11).more hB11.size) hkb).mono ?_
              rintro e w11 ⟨d11, rfl, ⟨x1, x2, rfl, hxs, hxw⟩, b11⟩
              obtain ⟨A9, c9, rfl⟩ := secs_slice hxs
              obtain ⟨A10, c10, rfl⟩ := wts_slice hxw
              rw [HE3.out]
              obtain ⟨nz, hnz⟩ : ∃ nz, nz = (crashS ss ws KB).length := ⟨_, rfl⟩
              rw [← hnz]
              have hn11 := below_new w11 (.cells #[.slice A9 nz c9, .slice A10 0 c10] 25)
              have hb12 : Below wr.heap.size wr (w11.alloc (.cells #[.slice A9 nz c9, .slice A10 0 c10] 25)) := b11.trans (hn11.mono b11.size)
              have hy12 := heap_alloc_self w11 (.cells #[.slice A9 nz c9, .slice A10 0 c10] 25)
              have hsy : SecsAt (w11.alloc (.cells #[.slice A9 nz c9, .slice A10 0 c10] 25)) wr.heap.size (.slice A9 nz c9) (crashS ss ws KB) := by rw [hnz]; exact hxs.below (below_new _ _)
              have hsx := hS11.below hb12
              have hx12 := (hb12.block _ (heap_lt hX11)).trans hX11
              have hB12 := hB11.trans (hb12.mono hB11.size)
              have HNZ := Lib.hid hnz
              clear hkb hxs hxw b11 hn11 hb12 hX11 hS11 hB11 kc0 kc1 hnz
              go_wp2_with fail
              generalize w11.alloc (.cells #[.slice A9 nz c9, .slice A10 0 c10] 25) = q12 at *
              have HEQ := Lib.hid (hides_sector HMA.out.1 HEX.out.symm HE3.out HKB.out (by have := HLK.out; omega) (by have := HLK.out; omega) HAT.out (hi := HKW.out) (hol := HLK.out.2))
              obtain ⟨hax, hay, heq⟩ := HEQ.out
              obtain ⟨bx, ox, ux, hAx, hbx, hcx, htx⟩ := hsx.in_.at hax
              obtain ⟨by_, oy, uy, hAy, hby, hcy, hty⟩ := hsy.in_.at hay
              subst hAx hAy
              rw [heq] at htx
              obtain ⟨T, hT⟩ : ∃ T, T = (crashS ss ws KB)[a] := ⟨_, rfl⟩
              rw [← hT] at htx hty
              have TX := Lib.hid htx
              have TY := Lib.hid hty
              obtain ⟨A13, c13, rfl, -, -, -, -⟩ := htx
              obtain ⟨A14, c14, rfl, -, -, -, -⟩ := hty
              have hnx : (a : Int) < nx := by obtain ⟨_, _, e, _⟩ := hsx.in_; cases e; omega
              have hnz' : (a : Int) < nz := by have := HNZ.out; omega
              have X12 := Lib.hid hx12
              have Y12 := Lib.hid hy12
              have B12 := Lib.hid hB12
              have CX := Lib.hid hcx
              have CY := Lib.hid hcy
              have LX := Lib.hid hbx
              have LY := Lib.hid hby
              clear hx12 hy12 hB12 hcx hcy hbx hby hsx hsy heq hT hax hay
              have Q0 := Lib.hid (Below.refl q12.heap.size q12).drew
              refine wp_region_held_drew (S := fun v => Below q12.heap.size q12 v) (by kernel_rfl) Q0.out (fun hHeld => ?_)
              refine wpAnyH_take (i := 0) (v := ?_) rfl (by kernel_rfl) (by kernel_rfl) (by kernel_rfl) (fun _ _ _ h => h) (Or.inl ⟨by rfl, ?_⟩) hHeld ?_
              rotate_left
              · intro w' hSw; go_simp; try with_reducible rfl
              simp only [List.getElem_toArray, List.getElem_cons_succ, List.getElem_cons_zero, Act.put, List.setIfInBounds_toArray, List.set_cons_zero, List.set_cons_succ]
              refine wpAnyH_take (i := 1) (v := ?_) rfl (by kernel_rfl) (by kernel_rfl) (by kernel_rfl) (fun _ _ _ h => h) (Or.inl ⟨by rfl, ?_⟩) hHeld ?_
              rotate_left
              · intro w' hSw; go_simp; try with_reducible rfl
              simp only [List.getElem_toArray, List.getElem_cons_succ, List.getElem_cons_zero, Act.put, List.setIfInBounds_toArray, List.set_cons_zero, List.set_cons_succ]
              refine wpAnyH_take (i := 2) (v := ?_) rfl (by kernel_rfl) (by kernel_rfl) (by kernel_rfl) (fun _ _ _ h => h) (Or.inl ⟨by rfl, ?_⟩) hHeld ?_
              rotate_left
              · intro w' hSw; go_simp; try with_reducible rfl
              simp only [List.getElem_toArray, List.getElem_cons_succ, List.getElem_cons_zero, Act.put, List.setIfInBounds_toArray, List.set_cons_zero, List.set_cons_succ]
              refine wpAnyH_take (i := 3) (v := ?_) rfl (by kernel_rfl) (by kernel_rfl) (by kernel_rfl) (fun _ _ _ h => h) (Or.inl ⟨by rfl, ?_⟩) hHeld ?_
              rotate_left
              · intro w' hSw; go_simp; try with_reducible rfl
              simp only [List.getElem_toArray, List.getElem_cons_succ, List.getElem_cons_zero, Act.put, List.setIfInBounds_toArray, List.set_cons_zero, List.set_cons_succ]
              refine wpAnyH_take (i := 4) (v := ?_) rfl (by kernel_rfl) (by kernel_rfl) (by kernel_rfl) (fun _ _ _ h => h) (Or.inl ⟨by rfl, ?_⟩) hHeld ?_
              rotate_left
              · intro w' hSw; go_simp; try with_reducible rfl
              simp only [List.getElem_toArray, List.getElem_cons_succ, List.getElem_cons_zero, Act.put, List.setIfInBounds_toArray, List.set_cons_zero, List.set_cons_succ]
              refine wpAnyH_take (i := 5) (v := ?_) rfl (by kernel_rfl) (by kernel_rfl) (by kernel_rfl) (fun _ _ _ h => h) (Or.inl ⟨by rfl, ?_⟩) hHeld ?_
              rotate_left
              · intro w' hSw; go_simp; try with_reducible rfl
              simp only [List.getElem_toArray, List.getElem_cons_succ, List.getElem_cons_zero, Act.put, List.setIfInBounds_toArray, List.set_cons_zero, List.set_cons_succ]
              refine wpAnyH_take (i := 6) (v := ?_) rfl (by kernel_rfl) (by kernel_rfl) (by kernel_rfl) (fun _ _ _ h => h) (Or.inl ⟨by rfl, ?_⟩) hHeld ?_
              rotate_left
              · intro w' hSw; go_simp; try with_reducible rfl
              simp only [List.getElem_toArray, List.getElem_cons_succ, List.getElem_cons_zero, Act.put, List.setIfInBounds_toArray, List.set_cons_zero, List.set_cons_succ]
              refine wpAnyH_take (i := 7) (v := ?_) rfl (by kernel_rfl) (by kernel_rfl) (by kernel_rfl) (fun _ _ _ h => h) (Or.inl ⟨by rfl, ?_⟩) hHeld ?_
              rotate_left
              · intro w' hSw; obtain ⟨c0, c1⟩ := cell2_of ((hSw.block _ (heap_lt X12.out)).trans X12.out); go_simp; try with_reducible rfl
              simp only [List.getElem_toArray, List.getElem_cons_succ, List.getElem_cons_zero, Act.put, List.setIfInBounds_toArray, List.set_cons_zero, List.set_cons_succ]
              refine wpAnyH_take (i := 8) (v := ?_) rfl (by kernel_rfl) (by kernel_rfl) (by kernel_rfl) (fun _ _ _ h => h) (Or.inl ⟨by rfl, ?_⟩) hHeld ?_
              rotate_left
              · intro w' hSw; go_simp; try with_reducible rfl
              simp only [List.getElem_toArray, List.getElem_cons_succ, List.getElem_cons_zero, Act.put, List.setIfInBounds_toArray, List.set_cons_zero, List.set_cons_succ]
              refine wpAnyH_take (i := 9) (v := ?_) rfl (by kernel_rfl) (by kernel_rfl) (by kernel_rfl) (fun _ _ _ h => h) (Or.inl ⟨by rfl, ?_⟩) hHeld ?_
              rotate_left
              · intro w' hSw; go_simp; try with_reducible rfl
              simp only [List.getElem_toArray, List.getElem_cons_succ, List.getElem_cons_zero, Act.put, List.setIfInBounds_toArray, List.set_cons_zero, List.set_cons_succ]
              refine wpAnyH_take (i := 10) (v := ?_) rfl (by kernel_rfl) (by kernel_rfl) (by kernel_rfl) (fun _ _ _ h => h) (Or.inl ⟨by rfl, ?_⟩) hHeld ?_
              rotate_left
              · intro w' hSw; have cu := (hSw.cell (p := ⟨bx, ox + a, none⟩) LX.out).trans CX.out; go_simp; try with_reducible rfl
              simp only [List.getElem_toArray, List.getElem_cons_succ, List.getElem_cons_zero, Act.put, List.setIfInBounds_toArray, List.set_cons_zero, List.set_cons_succ]
              refine wpAnyH_take (i := 11) (v := ?_) rfl (by kernel_rfl) (by kernel_rfl) (by kernel_rfl) (fun _ _ _ h => h) (Or.inl ⟨by rfl, ?_⟩) hHeld ?_
              rotate_left
              · intro w' hSw; have hs := run_txt_string (TX.out.below hSw); go_simp; try with_reducible rfl
              simp only [List.getElem_toArray, List.getElem_cons_succ, List.getElem_cons_zero, Act.put, List.setIfInBounds_toArray, List.set_cons_zero, List.set_cons_succ]
              refine wpAnyH_take (i := 12) (v := ?_) rfl (by kernel_rfl) (by kernel_rfl) (by kernel_rfl) (fun _ _ _ h => h) (Or.inl ⟨by rfl, ?_⟩) hHeld ?_
              rotate_left
              · intro w' hSw; go_simp; try with_reducible rfl
              simp only [List.getElem_toArray, List.getElem_cons_succ, List.getElem_cons_zero, Act.put, List.setIfInBounds_toArray, List.set_cons_zero, List.set_cons_succ]
              refine wpAnyH_take (i := 13) (v := ?_) rfl (by kernel_rfl) (by kernel_rfl) (by kernel_rfl) (fun _ _ _ h => h) (Or.inl ⟨by rfl, ?_⟩) hHeld ?_
              rotate_left
              · intro w' hSw; obtain ⟨c0, c1⟩ := cell2_of ((hSw.block _ (heap_lt Y12.out)).trans Y12.out); go_simp; try with_reducible rfl
              simp only [List.getElem_toArray, List.getElem_cons_succ, List.getElem_cons_zero, Act.put, List.setIfInBounds_toArray, List.set_cons_zero, List.set_cons_succ]
              refine wpAnyH_take (i := 14) (v := ?_) rfl (by kernel_rfl) (by kernel_rfl) (by kernel_rfl) (fun _ _ _ h => h) (Or.inl ⟨by rfl, ?_⟩) hHeld ?_
              rotate_left
              · intro w' hSw; go_simp; try with_reducible rfl
              simp only [List.getElem_toArray, List.getElem_cons_succ, List.getElem_cons_zero, Act.put, List.setIfInBounds_toArray, List.set_cons_zero, List.set_cons_succ]
              refine wpAnyH_take (i := 15) (v := ?_) rfl (by kernel_rfl) (by kernel_rfl) (by kernel_rfl) (fun _ _ _ h => h) (Or.inl ⟨by rfl, ?_⟩) hHeld ?_
              rotate_left
              · intro w' hSw; go_simp; try with_reducible rfl
              simp only [List.getElem_toArray, List.getElem_cons_succ, List.getElem_cons_zero, Act.put, List.setIfInBounds_toArray, List.set_cons_zero, List.set_cons_succ]
              refine wpAnyH_take (i := 16) (v := ?_) rfl (by kernel_rfl) (by kernel_rfl) (by kernel_rfl) (fun _ _ _ h => h) (Or.inl ⟨by rfl, ?_⟩) hHeld ?_
              rotate_left
              · intro w' hSw; have cu := (hSw.cell (p := ⟨by_, oy + a, none⟩) LY.out).trans CY.out; go_simp; try with_reducible rfl
              simp only [List.getElem_toArray, List.getElem_cons_succ, List.getElem_cons_zero, Act.put, List.setIfInBounds_toArray, List.set_cons_zero, List.set_cons_succ]
              refine wpAnyH_take (i := 17) (v := ?_) rfl (by kernel_rfl) (by kernel_rfl) (by kernel_rfl) (fun _ _ _ h => h) (Or.inl ⟨by rfl, ?_⟩) hHeld ?_
              rotate_left
              · intro w' hSw; have hs := run_txt_string (TY.out.below hSw); go_simp; try with_reducible rfl
              simp only [List.getElem_toArray, List.getElem_cons_succ, List.getElem_cons_zero, Act.put, List.setIfInBounds_toArray, List.set_cons_zero, List.set_cons_succ]
              refine wpAnyH_take (i := 18) (v := ?_) rfl (by kernel_rfl) (by kernel_rfl) (by kernel_rfl) (fun _ _ _ h => h) (Or.inl ⟨by rfl, ?_⟩) hHeld ?_
              rotate_left
              · intro w' hSw; go_simp; try with_reducible rfl
              simp only [List.getElem_toArray, List.getElem_cons_succ, List.getElem_cons_zero, Act.put, List.setIfInBounds_toArray, List.set_cons_zero, List.set_cons_succ]
              refine wpAnyH_take (i := 19) (v := ?_) rfl (by kernel_rfl) (by kernel_rfl) (by kernel_rfl) (fun _ _ _ h => h) (Or.inl ⟨by rfl, ?_⟩) hHeld ?_
              rotate_left
              · intro w' hSw; go_simp; try with_reducible rfl
              simp only [List.getElem_toArray, List.getElem_cons_succ, List.getElem_cons_zero, Act.put, List.setIfInBounds_toArray, List.set_cons_zero, List.set_cons_succ]
              refine wpAnyH_take (i := 20) (v := ?_) rfl (by kernel_rfl) (by kernel_rfl) (by kernel_rfl) (fun _ _ _ h => h) (Or.inl ⟨by rfl, ?_⟩) hHeld ?_
              rotate_left
              · intro w' hSw; go_simp; try with_reducible rfl
              simp only [List.getElem_toArray, List.getElem_cons_succ, List.getElem_cons_zero, Act.put, List.setIfInBounds_toArray, List.set_cons_zero, List.set_cons_succ]
              refine wpAnyH_done (by kernel_rfl) ?_ _
              have HALL := Lib.hid (B12.out.trans (Q0.out.mono B12.out.size))
              go_wp2_with fail
              go_ret
              exact ⟨rfl, HALL.out⟩
        · have hfb : (ey == 0) = false := by rw [beq_eq_false_iff_ne]; exact hf
          subst he
          go_wp2_with fail
          go_ret
          exact ⟨rfl, B8.out.trans (hb10.mono B8.out.size)⟩
      · have heb : (ex == 0) = false := by rw [beq_eq_false_iff_ne]; exact he
        go_wp2_with fail
        go_ret
        exact ⟨rfl, B8.out.trans (hb10.mono B8.out.size)⟩
end Go.Proofs.Ytdpjdobmnkadjaa
