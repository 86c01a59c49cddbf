/-
  Copies of lists of sectors and of writes, and of a disk, in memory of the call's own.
  Conditions: at most 1,000 sectors and writes, none of more than 1,000,000 bytes.
-/
import Derived.Test.YtdjoflhcagfmiaaDevClone
set_option linter.unusedVariables false
set_option linter.unusedSimpArgs false
set_option maxRecDepth 100000
namespace Go.Proofs.Ytdjoflhcagfmiaa
open Go.RowKit

theorem wpList_append_any {P : Program} {w : World} {ops : Array Oper} {rest : List Oper} {o : Oper} {a : Act} {Q : Exit → Act → World → Prop} (hgd : o.guard = none) (s x : Operand) (t : TypeId)
    (ho : o.op = .call { callee := .builtin .append, args := #[s, x], argTypes := #[t, t] })
    {base e size bytes : Nat} {i : TypeInfo} {z : Value} (ht : P.underlying t = some (.slice e)) (hi : P.info? e = some i) (hz : i.zero = some z) (hzs : z.cells.size = size) (hsize : i.size = size) (hsz : 0 < size) (hby : i.bytes = bytes) (hb8 : bytes ≤ 100)
    {v : Value} {n m : Nat} {ys : List Value} (hs : a.eval s = v) (hown : w.ownsRow base e size v n ys) {b c : Nat} {news : List Value} (hu : a.eval x = .slice (some ⟨b, 0, none⟩) m c) (hl : news.length = m * size)
    (hc : ∀ j u, news[j]? = some u → w.cell? ⟨b, j, none⟩ = some u) (h1 : ∀ u ∈ news, u.oneCell' = true) (h63 : n + m ≤ 100000) (hbase : base ≤ w.heap.size)
    (h : ∀ v' w', w'.ownsRow base e size v' (n + m) (ys ++ news) → w.grownBy w' v.ownBlock → wpList P ops Q rest (a.put o.dst v') w') : wpList P ops Q (o :: rest) a w := by
  refine wpList_plain hgd fun K hK => ?_
  obtain ⟨v', w', hrun, h2, h3, _⟩ := run_append_own (P := P) w base t o.type e i z size bytes ht hi hz hsize hby hzs hsz v n ys hown ⟨b, 0, none⟩ m c news hl (fun j u hj => by rw [Addr.add_lit, Nat.zero_add]; exact hc j u hj) h1 (by unfold maxLen; omega)
    (by have := Nat.mul_le_mul h63 hb8; omega) hbase
  unfold Oper.wp execOp
  simp only [ho, resolve, invoke, builtin, Sem.run_bind, Sem.run_pure, Result.andThen_ok, List.map_toArray, List.map_cons, List.map_nil, hs, hu, hrun]
  exact hK _ _ (h v' w' h2 h3)

theorem owns_block {w : World} {base e size n : Nat} {v : Value} {ys : List Value} (h : w.ownsRow base e size v n ys) {g : Nat} (hg : v.ownBlock = some g) : ∃ cur, w.heap[g]? = some (.cells cur e (0, 0)) ∧ base ≤ g := by
  rcases h.2 with ⟨rfl, _⟩ | ⟨b, cap, cur, rfl, hb, h3, _⟩
  · cases hg
  · cases hg; exact ⟨cur, h3, hb⟩
theorem owns_apart {w : World} {base e size n base' e' size' n' : Nat} {v v' : Value} {ys ys' : List Value} (hne : e ≠ e') (h : w.ownsRow base e size v n ys) (h' : w.ownsRow base' e' size' v' n' ys') : v.ownBlock = none ∨ v.ownBlock ≠ v'.ownBlock := by
  cases hb : v.ownBlock with
  | none => exact .inl rfl
  | some g =>
    refine .inr fun e1 => ?_
    obtain ⟨c1, h1, _⟩ := owns_block h hb
    obtain ⟨c2, h2, _⟩ := owns_block h' e1.symm
    rw [h1] at h2
    cases h2
    exact hne rfl

theorem secs_snoc {W w1 w2 : World} {lo : Nat} {v v' y : Value} {ss : List Bs} {s : Bs} {ys : List Value} {o : Obj} (ho : W.ownsRow lo 34 1 v ss.length ys) (hl : ys.length = ss.length)
    (he : ∀ (j : Nat) (y : Value) (s : Bs), ys[j]? = some y → ss[j]? = some s → W.ownsRow lo 5 1 y s.length (s.map u8) ∧ s.length ≤ maxLen)
    (hd : ∀ (i j : Nat) (y z : Value) (b : Nat), ys[i]? = some y → ys[j]? = some z → y.ownBlock = some b → z.ownBlock = some b → i = j)
    (hlo : lo ≤ W.heap.size) (hb1 : Below W.heap.size W w1) (hy : w1.ownsRow W.heap.size 5 1 y s.length (s.map u8)) (hs : s.length ≤ maxLen) (hmx : ss.length + 1 ≤ maxLen)
    (hown : w2.ownsRow lo 34 1 v' (ss.length + 1) (ys ++ [y])) (hgr : (w1.alloc o).grownBy w2 v.ownBlock) : SecsAt w2 lo v' (ss ++ [s]) := by
  have hv : (w1.alloc o).ownsRow lo 34 1 v ss.length ys := (owns_below ho hb1).alloc o
  have hy2 : w2.ownsRow W.heap.size 5 1 y s.length (s.map u8) := (hy.alloc o).kept hgr (owns_apart (by decide) (hy.alloc o) hv)
  refine ⟨ys ++ [y], by simpa using hown, by simp [hl], by simp; omega, fun j z t hz ht => ?_, fun i j a b g ha hb hga hgb => ?_⟩
  · rcases Nat.lt_trichotomy j ss.length with h | h | h
    · rw [List.getElem?_append_left (by omega)] at hz ht
      obtain ⟨h1, h2⟩ := he j z t hz ht
      have h3 := (owns_below h1 hb1).alloc o
      exact ⟨h3.kept hgr (owns_apart (by decide) h3 hv), h2⟩
    · subst h
      rw [List.getElem?_append_right (by omega), hl] at hz
      rw [List.getElem?_append_right (by omega)] at ht
      simp at hz ht
      subst hz ht
      exact ⟨owns_mono hy2 hlo, hs⟩
    · rw [List.getElem?_eq_none (by simp; omega)] at ht
      cases ht
  · have old : ∀ (i : Nat) (a : Value), i < ss.length → (ys ++ [y])[i]? = some a → a.ownBlock = some g → g < W.heap.size := fun i a hi ha hga => by
      rw [List.getElem?_append_left (by omega)] at ha
      obtain ⟨h1, _⟩ := he i a ss[i] ha (List.getElem?_eq_getElem hi)
      exact (h1.lt g hga).2
    have new : ∀ (i : Nat) (a : Value), ¬ i < ss.length → (ys ++ [y])[i]? = some a → a.ownBlock = some g → i = ss.length ∧ W.heap.size ≤ g := fun i a hi ha hga => by
      rw [List.getElem?_append_right (by omega), hl] at ha
      have : i = ss.length := by
        rcases Nat.eq_zero_or_pos (i - ss.length) with h | h
        · omega
        · rw [List.getElem?_eq_none (by simp; omega)] at ha; cases ha
      subst this
      simp at ha
      subst ha
      exact ⟨rfl, (hy.lt g hga).1⟩
    by_cases hi : i < ss.length
    · by_cases hj : j < ss.length
      · rw [List.getElem?_append_left (by omega)] at ha hb
        exact hd i j a b g ha hb hga hgb
      · have := old i a hi ha hga
        have := (new j b hj hb hgb).2
        omega
    · by_cases hj : j < ss.length
      · have := old j b hj hb hgb
        have := (new i a hi ha hga).2
        omega
      · rw [(new i a hi ha hga).1, (new j b hj hb hgb).1]

theorem wts_snoc {W w1 w2 : World} {lo : Nat} {v v' y : Value} {ws : List Wr} {x : Wr} {ys : List Value} {o : Obj} (ho : W.ownsRow lo 52 2 v ws.length (wcells ws ys)) (hl : ys.length = ws.length)
    (he : ∀ (j : Nat) (y : Value) (w : Wr), ys[j]? = some y → ws[j]? = some w → W.ownsRow lo 5 1 y w.2.length (w.2.map u8) ∧ w.2.length ≤ maxLen)
    (hlo : lo ≤ W.heap.size) (hb1 : Below W.heap.size W w1) (hy : w1.ownsRow W.heap.size 5 1 y x.2.length (x.2.map u8)) (hs : x.2.length ≤ maxLen) (hmx : ws.length + 1 ≤ maxLen)
    (hown : w2.ownsRow lo 52 2 v' (ws.length + 1) (wcells ws ys ++ [.int .i64 x.1, y])) (hgr : (w1.alloc o).grownBy w2 v.ownBlock) : WtsAt w2 lo v' (ws ++ [x]) := by
  have hv : (w1.alloc o).ownsRow lo 52 2 v ws.length (wcells ws ys) := (owns_below ho hb1).alloc o
  have hy2 : w2.ownsRow W.heap.size 5 1 y x.2.length (x.2.map u8) := (hy.alloc o).kept hgr (owns_apart (by decide) (hy.alloc o) hv)
  refine ⟨ys ++ [y], by rw [wcells_snoc _ _ _ _ hl]; simpa using hown, by simp [hl], by simp; omega, fun j z t hz ht => ?_⟩
  rcases Nat.lt_trichotomy j ws.length with h | h | h
  · rw [List.getElem?_append_left (by omega)] at hz ht
    obtain ⟨h1, h2⟩ := he j z t hz ht
    have h3 := (owns_below h1 hb1).alloc o
    exact ⟨h3.kept hgr (owns_apart (by decide) h3 hv), h2⟩
  · subst h
    rw [List.getElem?_append_right (by omega), hl] at hz
    rw [List.getElem?_append_right (by omega)] at ht
    simp at hz ht
    subst hz ht
    exact ⟨owns_mono hy2 hlo, hs⟩
  · rw [List.getElem?_eq_none (by simp; omega)] at ht
    cases ht

theorem own_ge {w : World} {base e size n : Nat} {v : Value} {ys : List Value} (h : w.ownsRow base e size v n ys) : ∀ k, v.ownBlock = some k → base ≤ k := fun k hk => (h.lt k hk).1

theorem made_secs (m : Nat) (h : m ≤ 1000) (w' : World) : ∃ o : Obj, (Instr.makeSlice 26 (.int .i64 0) (.int .i64 (m : Int))).run Try.prog w' = .ok (.slice (some ⟨w'.heap.size, 0, none⟩) 0 m) (w'.alloc o) ∧ (w'.alloc o).ownsRow w'.heap.size 34 1 (.slice (some ⟨w'.heap.size, 0, none⟩) 0 m) 0 [] := by
  obtain ⟨i0, hi, hz0, hz1, hz2⟩ := info_parts infoSlice
  have := run_make (P := Try.prog) w' 26 34 i0 _ Try.underlying26 hi hz0 .i64 .i64 0 m (by omega) (by omega) (by rw [hz2]; omega) (by omega)
  exact ⟨_, this, World.ownsRow_made _ _ _ (Nat.le_refl _) (by unfold maxLen; omega) (by rw [hz1]; simp [madeCells])⟩
theorem made_wts (m : Nat) (h : m ≤ 1000) (w' : World) : ∃ o : Obj, (Instr.makeSlice 27 (.int .i64 0) (.int .i64 (m : Int))).run Try.prog w' = .ok (.slice (some ⟨w'.heap.size, 0, none⟩) 0 m) (w'.alloc o) ∧ (w'.alloc o).ownsRow w'.heap.size 52 2 (.slice (some ⟨w'.heap.size, 0, none⟩) 0 m) 0 [] := by
  obtain ⟨i0, hi, hz0, hz1, hz2⟩ := info_parts infoWrite
  have := run_make (P := Try.prog) w' 27 52 i0 _ Try.underlying27 hi hz0 .i64 .i64 0 m (by omega) (by omega) (by rw [hz2]; omega) (by omega)
  exact ⟨_, this, World.ownsRow_made _ _ _ (Nat.le_refl _) (by unfold maxLen; omega) (by rw [hz1]; simp [madeCells])⟩
end Go.Proofs.Ytdjoflhcagfmiaa
