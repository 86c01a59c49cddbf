/-
  What it means that a value reads as a disk: lists of sectors and of writes, in memory that came in, and in memory of the call's own; and how that lasts.
  Conditions: none.
-/
import Derived.Test.YtdjoflhcagfmiaaDevMath
import Derived.Test.YtdjoflhcagfmiaaBase
set_option linter.unusedVariables false
set_option linter.unusedSimpArgs false
set_option maxRecDepth 100000
namespace Go.Proofs.Ytdjoflhcagfmiaa
open Go.RowKit

/-- The slice v reads as the texts ss. -/
def SecsIn (W : World) (B : Nat) (v : Value) (ss : List Bs) : Prop :=
  ∃ (A : Option Addr) (cap : Nat), v = .slice A ss.length cap ∧ ss.length ≤ cap ∧ cap ≤ maxLen ∧ (A = none → cap = 0) ∧
    (0 < ss.length → ∃ b off, A = some ⟨b, off, none⟩ ∧ b < B ∧ ∀ j (h : j < ss.length), ∃ u, W.cell? ⟨b, off + j, none⟩ = some u ∧ Txt W B u ss[j])
/-- The slice v reads as the writes ws. -/
def WtsIn (W : World) (B : Nat) (v : Value) (ws : List Wr) : Prop :=
  ∃ (A : Option Addr) (cap : Nat), v = .slice A ws.length cap ∧ ws.length ≤ cap ∧ cap ≤ maxLen ∧ (A = none → cap = 0) ∧
    (0 < ws.length → ∃ b off, A = some ⟨b, off, none⟩ ∧ b < B ∧ ∀ j (h : j < ws.length), ∃ u, W.cell? ⟨b, off + j * 2, none⟩ = some (.int .i64 ws[j].1) ∧ W.cell? ⟨b, off + j * 2 + 1, none⟩ = some u ∧ Txt W B u ws[j].2)
/-- The slice v reads as the numbers ks. -/
def NumsIn (W : World) (B : Nat) (v : Value) (ks : List Int) : Prop :=
  ∃ (A : Option Addr) (cap : Nat), v = .slice A ks.length cap ∧ ks.length ≤ cap ∧ cap ≤ maxLen ∧ (A = none → cap = 0) ∧
    (0 < ks.length → ∃ b off, A = some ⟨b, off, none⟩ ∧ b < B ∧ ∀ j (h : j < ks.length), W.cell? ⟨b, off + j, none⟩ = some (.int .i64 ks[j]))
def DiskIn (W : World) (B : Nat) (d : Value) (ss : List Bs) (ws : List Wr) : Prop := ∃ v1 v2, d = .agg #[v1, v2] ∧ SecsIn W B v1 ss ∧ WtsIn W B v2 ws

section
variable {W W' : World} {B : Nat} {v : Value} {ss : List Bs} {ws : List Wr} {ks : List Int}
theorem SecsIn.below (h : SecsIn W B v ss) (hb : Below B W W') : SecsIn W' B v ss := by
  obtain ⟨A, cap, h0, h1, h2, hn, h3⟩ := h
  refine ⟨A, cap, h0, h1, h2, hn, fun hp => ?_⟩
  obtain ⟨b, off, ha, hlt, hc⟩ := h3 hp
  refine ⟨b, off, ha, hlt, fun j hj => ?_⟩
  obtain ⟨u, hu, ht⟩ := hc j hj
  exact ⟨u, (hb.cell (p := ⟨b, _, none⟩) hlt).trans hu, ht.below hb⟩
theorem WtsIn.below (h : WtsIn W B v ws) (hb : Below B W W') : WtsIn W' B v ws := by
  obtain ⟨A, cap, h0, h1, h2, hn, h3⟩ := h
  refine ⟨A, cap, h0, h1, h2, hn, fun hp => ?_⟩
  obtain ⟨b, off, ha, hlt, hc⟩ := h3 hp
  refine ⟨b, off, ha, hlt, fun j hj => ?_⟩
  obtain ⟨u, hi, hu, ht⟩ := hc j hj
  exact ⟨u, (hb.cell (p := ⟨b, _, none⟩) hlt).trans hi, (hb.cell (p := ⟨b, _, none⟩) hlt).trans hu, ht.below hb⟩
theorem NumsIn.below (h : NumsIn W B v ks) (hb : Below B W W') : NumsIn W' B v ks := by
  obtain ⟨A, cap, h0, h1, h2, hn, h3⟩ := h
  refine ⟨A, cap, h0, h1, h2, hn, fun hp => ?_⟩
  obtain ⟨b, off, ha, hlt, hc⟩ := h3 hp
  exact ⟨b, off, ha, hlt, fun j hj => (hb.cell (p := ⟨b, _, none⟩) hlt).trans (hc j hj)⟩
theorem DiskIn.below (h : DiskIn W B v ss ws) (hb : Below B W W') : DiskIn W' B v ss ws := by
  obtain ⟨v1, v2, rfl, h1, h2⟩ := h
  exact ⟨v1, v2, rfl, h1.below hb, h2.below hb⟩
theorem SecsIn.more {B' : Nat} (h : SecsIn W B v ss) (hB : B ≤ B') : SecsIn W B' v ss := by
  obtain ⟨A, cap, h0, h1, h2, hn, h3⟩ := h
  refine ⟨A, cap, h0, h1, h2, hn, fun hp => ?_⟩
  obtain ⟨b, off, ha, hlt, hc⟩ := h3 hp
  refine ⟨b, off, ha, by omega, fun j hj => ?_⟩
  obtain ⟨u, hu, ht⟩ := hc j hj
  exact ⟨u, hu, ht.more hB⟩
theorem WtsIn.more {B' : Nat} (h : WtsIn W B v ws) (hB : B ≤ B') : WtsIn W B' v ws := by
  obtain ⟨A, cap, h0, h1, h2, hn, h3⟩ := h
  refine ⟨A, cap, h0, h1, h2, hn, fun hp => ?_⟩
  obtain ⟨b, off, ha, hlt, hc⟩ := h3 hp
  refine ⟨b, off, ha, by omega, fun j hj => ?_⟩
  obtain ⟨u, hi, hu, ht⟩ := hc j hj
  exact ⟨u, hi, hu, ht.more hB⟩
theorem DiskIn.more {B' : Nat} (h : DiskIn W B v ss ws) (hB : B ≤ B') : DiskIn W B' v ss ws := by
  obtain ⟨v1, v2, rfl, h1, h2⟩ := h
  exact ⟨v1, v2, rfl, h1.more hB, h2.more hB⟩
theorem SecsIn.drewN (h : SecsIn W B v ss) (n : Nat) : SecsIn (W.drewN n) B v ss := h
theorem WtsIn.drewN (h : WtsIn W B v ws) (n : Nat) : WtsIn (W.drewN n) B v ws := h
theorem SecsIn.nil_ : SecsIn W B (.slice none 0 0) [] := ⟨none, 0, rfl, Nat.le_refl _, Nat.zero_le _, fun _ => rfl, fun h => absurd h (by simp)⟩
theorem WtsIn.nil_ : WtsIn W B (.slice none 0 0) [] := ⟨none, 0, rfl, Nat.le_refl _, Nat.zero_le _, fun _ => rfl, fun h => absurd h (by simp)⟩
theorem SecsIn.le (h : SecsIn W B v ss) : ss.length ≤ maxLen := by obtain ⟨A, cap, _, h1, h2, _, _⟩ := h; omega
theorem WtsIn.le (h : WtsIn W B v ws) : ws.length ≤ maxLen := by obtain ⟨A, cap, _, h1, h2, _, _⟩ := h; omega
theorem NumsIn.le (h : NumsIn W B v ks) : ks.length ≤ maxLen := by obtain ⟨A, cap, _, h1, h2, _, _⟩ := h; omega
/-- One element. -/
theorem SecsIn.at {A : Option Addr} {n cap : Nat} (h : SecsIn W B (.slice A n cap) ss) {j : Nat} (hj : j < ss.length) :
    ∃ b off u, A = some ⟨b, off, none⟩ ∧ b < B ∧ W.cell? ⟨b, off + j, none⟩ = some u ∧ Txt W B u ss[j] := by
  obtain ⟨A', cap', e, _, _, _, h3⟩ := h
  cases e
  obtain ⟨b, off, ha, hb, hc⟩ := h3 (by omega)
  obtain ⟨u, hu, ht⟩ := hc j hj
  exact ⟨b, off, u, ha, hb, hu, ht⟩
theorem WtsIn.at {A : Option Addr} {n cap : Nat} (h : WtsIn W B (.slice A n cap) ws) {j : Nat} (hj : j < ws.length) :
    ∃ b off u, A = some ⟨b, off, none⟩ ∧ b < B ∧ W.cell? ⟨b, off + j * 2, none⟩ = some (.int .i64 ws[j].1) ∧ W.cell? ⟨b, off + j * 2 + 1, none⟩ = some u ∧ Txt W B u ws[j].2 := by
  obtain ⟨A', cap', e, _, _, _, h3⟩ := h
  cases e
  obtain ⟨b, off, ha, hb, hc⟩ := h3 (by omega)
  obtain ⟨u, hi, hu, ht⟩ := hc j hj
  exact ⟨b, off, u, ha, hb, hi, hu, ht⟩
theorem NumsIn.at {A : Option Addr} {n cap : Nat} (h : NumsIn W B (.slice A n cap) ks) {j : Nat} (hj : j < ks.length) :
    ∃ b off, A = some ⟨b, off, none⟩ ∧ b < B ∧ W.cell? ⟨b, off + j, none⟩ = some (.int .i64 ks[j]) := by
  obtain ⟨A', cap', e, _, _, _, h3⟩ := h
  cases e
  obtain ⟨b, off, ha, hb, hc⟩ := h3 (by omega)
  exact ⟨b, off, ha, hb, hc j hj⟩
end

/-- A row of the call's own: texts, each a row of the call's own, no two in one block. -/
def SecsAt (W : World) (lo : Nat) (v : Value) (ss : List Bs) : Prop :=
  ∃ ys : List Value, W.ownsRow lo 34 1 v ss.length ys ∧ ys.length = ss.length ∧ ss.length ≤ maxLen ∧
    (∀ (j : Nat) (y : Value) (s : Bs), ys[j]? = some y → ss[j]? = some s → W.ownsRow lo 5 1 y s.length (s.map u8) ∧ s.length ≤ maxLen) ∧
    (∀ (i j : Nat) (y z : Value) (b : Nat), ys[i]? = some y → ys[j]? = some z → y.ownBlock = some b → z.ownBlock = some b → i = j)
/-- A row of the call's own: writes, each with a text of the call's own. -/
def wcells (ws : List Wr) (ys : List Value) : List Value := (List.zipWith (fun (w : Wr) y => [Value.int .i64 w.1, y]) ws ys).flatten
def WtsAt (W : World) (lo : Nat) (v : Value) (ws : List Wr) : Prop :=
  ∃ ys : List Value, W.ownsRow lo 52 2 v ws.length (wcells ws ys) ∧ ys.length = ws.length ∧ ws.length ≤ maxLen ∧
    (∀ (j : Nat) (y : Value) (w : Wr), ys[j]? = some y → ws[j]? = some w → W.ownsRow lo 5 1 y w.2.length (w.2.map u8) ∧ w.2.length ≤ maxLen)
def DiskAt (W : World) (lo : Nat) (d : Value) (ss : List Bs) (ws : List Wr) : Prop := ∃ v1 v2, d = .agg #[v1, v2] ∧ SecsAt W lo v1 ss ∧ WtsAt W lo v2 ws

theorem Txt.of_own {W : World} {lo : Nat} {v : Value} {xs : Bs} (h : W.ownsRow lo 5 1 v xs.length (xs.map u8)) (hl : xs.length ≤ maxLen) : Txt W W.heap.size v xs := Txt.own hl h
theorem SecsAt.in_ {W : World} {lo : Nat} {v : Value} {ss : List Bs} (h : SecsAt W lo v ss) : SecsIn W W.heap.size v ss := by
  obtain ⟨ys, ho, hl, hm, he, hd⟩ := h
  have ho' := ho
  rcases ho.2 with ⟨rfl, h0⟩ | ⟨g, cap, cur, rfl, _, hgb, hcap, hcur⟩
  · have hss : ss = [] := List.eq_nil_of_length_eq_zero h0
    subst hss
    exact SecsIn.nil_
  · refine ⟨_, cap, rfl, hcap, hcur.1, fun h => (by cases h), fun _ => ⟨g, 0, rfl, (Array.getElem?_eq_some_iff.1 hgb).1, fun j hj => ?_⟩⟩
    refine ⟨ys[j], ?_, ?_⟩
    · rw [Nat.zero_add, ho'.cellAt j (by omega), List.getElem?_eq_getElem (by omega)]
      first | done | rfl
    · have := he j ys[j] ss[j] (List.getElem?_eq_getElem (by omega)) (List.getElem?_eq_getElem hj)
      exact Txt.of_own this.1 this.2
theorem wcells_cons (w : Wr) (ws : List Wr) (y : Value) (ys : List Value) : wcells (w :: ws) (y :: ys) = Value.int .i64 w.1 :: y :: wcells ws ys := rfl
theorem wcells_length : ∀ (ws : List Wr) (ys : List Value), ys.length = ws.length → (wcells ws ys).length = 2 * ws.length
  | [], [], _ => rfl
  | w :: ws, y :: ys, h => by rw [wcells_cons]; have := wcells_length ws ys (by simpa using h); simp only [List.length_cons] at *; omega
theorem wcells_at : ∀ (ws : List Wr) (ys : List Value) (j : Nat) (w : Wr) (y : Value), ws[j]? = some w → ys[j]? = some y → (wcells ws ys)[j * 2]? = some (.int .i64 w.1) ∧ (wcells ws ys)[j * 2 + 1]? = some y
  | [], _, j, w, y, h, _ => by simp at h
  | w0 :: ws, [], j, w, y, _, h => by simp at h
  | w0 :: ws, y0 :: ys, 0, w, y, h, h' => by simp at h h'; subst h h'; exact ⟨rfl, rfl⟩
  | w0 :: ws, y0 :: ys, j + 1, w, y, h, h' => by
    have := wcells_at ws ys j w y (by simpa using h) (by simpa using h')
    rw [wcells_cons, show (j + 1) * 2 = j * 2 + 1 + 1 from by omega]
    simpa using this
theorem wcells_snoc : ∀ (ws : List Wr) (ys : List Value) (w : Wr) (y : Value), ys.length = ws.length → wcells (ws ++ [w]) (ys ++ [y]) = wcells ws ys ++ [.int .i64 w.1, y]
  | [], [], w, y, _ => rfl
  | w0 :: ws, y0 :: ys, w, y, h => by
    have := wcells_snoc ws ys w y (by simpa using h)
    simp only [List.cons_append, wcells_cons, this]
theorem WtsAt.in_ {W : World} {lo : Nat} {v : Value} {ws : List Wr} (h : WtsAt W lo v ws) : WtsIn W W.heap.size v ws := by
  obtain ⟨ys, ho, hl, hm, he⟩ := h
  have ho' := ho
  have hc := wcells_length ws ys hl
  rcases ho.2 with ⟨rfl, h0⟩ | ⟨g, cap, cur, rfl, _, hgb, hcap, hcur⟩
  · have hss : ws = [] := List.eq_nil_of_length_eq_zero h0
    subst hss
    exact WtsIn.nil_
  · refine ⟨_, cap, rfl, hcap, hcur.1, fun h => (by cases h), fun _ => ⟨g, 0, rfl, (Array.getElem?_eq_some_iff.1 hgb).1, fun j hj => ?_⟩⟩
    have hw : ws[j]? = some ws[j] := List.getElem?_eq_getElem hj
    have hy : ys[j]? = some ys[j] := List.getElem?_eq_getElem (by omega)
    obtain ⟨c1, c2⟩ := wcells_at ws ys j _ _ hw hy
    refine ⟨ys[j], ?_, ?_, ?_⟩
    · rw [Nat.zero_add, ho'.cellAt (j * 2) (by omega), c1]; first | done | rfl
    · rw [Nat.zero_add, ho'.cellAt (j * 2 + 1) (by omega), c2]; first | done | rfl
    · have := he j _ _ hy hw
      exact Txt.of_own this.1 this.2
theorem DiskAt.in_ {W : World} {lo : Nat} {d : Value} {ss : List Bs} {ws : List Wr} (h : DiskAt W lo d ss ws) : DiskIn W W.heap.size d ss ws := by
  obtain ⟨v1, v2, rfl, h1, h2⟩ := h
  exact ⟨v1, v2, rfl, h1.in_, h2.in_⟩
theorem SecsAt.nil_ (W : World) (lo : Nat) : SecsAt W lo (.slice none 0 0) [] := ⟨[], World.ownsRow_nil _ _ _ _, rfl, by simp, fun j y s h => by simp at h, fun i j y z b h => by simp at h⟩
theorem WtsAt.nil_ (W : World) (lo : Nat) : WtsAt W lo (.slice none 0 0) [] := ⟨[], World.ownsRow_nil _ _ _ _, rfl, by simp, fun j y w h => by simp at h⟩
theorem DiskAt.nil_ (W : World) (lo : Nat) : DiskAt W lo (.agg #[.slice none 0 0, .slice none 0 0]) [] [] := ⟨_, _, rfl, SecsAt.nil_ W lo, WtsAt.nil_ W lo⟩
theorem SecsAt.below {W W' : World} {lo : Nat} {v : Value} {ss : List Bs} (h : SecsAt W lo v ss) (hb : Below W.heap.size W W') : SecsAt W' lo v ss := by
  obtain ⟨ys, ho, hl, hm, he, hd⟩ := h
  exact ⟨ys, owns_below ho hb, hl, hm, fun j y s h1 h2 => ⟨owns_below (he j y s h1 h2).1 hb, (he j y s h1 h2).2⟩, hd⟩
theorem WtsAt.below {W W' : World} {lo : Nat} {v : Value} {ws : List Wr} (h : WtsAt W lo v ws) (hb : Below W.heap.size W W') : WtsAt W' lo v ws := by
  obtain ⟨ys, ho, hl, hm, he⟩ := h
  exact ⟨ys, owns_below ho hb, hl, hm, fun j y s h1 h2 => ⟨owns_below (he j y s h1 h2).1 hb, (he j y s h1 h2).2⟩⟩
theorem owns_mono {W : World} {lo lo' e size n : Nat} {v : Value} {ys : List Value} (h : W.ownsRow lo e size v n ys) (hl : lo' ≤ lo) : W.ownsRow lo' e size v n ys := by
  refine ⟨h.1, ?_⟩
  rcases h.2 with h2 | ⟨g, cap, cur, h1, h2, h3, h4⟩
  · exact .inl h2
  · exact .inr ⟨g, cap, cur, h1, Nat.le_trans hl h2, h3, h4⟩
theorem SecsAt.mono {W : World} {lo lo' : Nat} {v : Value} {ss : List Bs} (h : SecsAt W lo v ss) (hl : lo' ≤ lo) : SecsAt W lo' v ss := by
  obtain ⟨ys, ho, hle, hm, he, hd⟩ := h
  exact ⟨ys, owns_mono ho hl, hle, hm, fun j y s h1 h2 => ⟨owns_mono (he j y s h1 h2).1 hl, (he j y s h1 h2).2⟩, hd⟩
theorem WtsAt.mono {W : World} {lo lo' : Nat} {v : Value} {ws : List Wr} (h : WtsAt W lo v ws) (hl : lo' ≤ lo) : WtsAt W lo' v ws := by
  obtain ⟨ys, ho, hle, hm, he⟩ := h
  exact ⟨ys, owns_mono ho hl, hle, hm, fun j y s h1 h2 => ⟨owns_mono (he j y s h1 h2).1 hl, (he j y s h1 h2).2⟩⟩
theorem DiskAt.below {W W' : World} {lo : Nat} {d : Value} {ss : List Bs} {ws : List Wr} (h : DiskAt W lo d ss ws) (hb : Below W.heap.size W W') : DiskAt W' lo d ss ws := by
  obtain ⟨v1, v2, rfl, h1, h2⟩ := h
  exact ⟨v1, v2, rfl, h1.below hb, h2.below hb⟩
theorem DiskAt.mono {W : World} {lo lo' : Nat} {d : Value} {ss : List Bs} {ws : List Wr} (h : DiskAt W lo d ss ws) (hl : lo' ≤ lo) : DiskAt W lo' d ss ws := by
  obtain ⟨v1, v2, rfl, h1, h2⟩ := h
  exact ⟨v1, v2, rfl, h1.mono hl, h2.mono hl⟩
theorem infoSlice : (Try.prog.info? 34).map (fun i => (i.zero, i.size, i.bytes)) = some (some (.slice none 0 0), 1, 24) := by kernel_rfl
theorem infoWrite : (Try.prog.info? 52).map (fun i => (i.zero, i.size, i.bytes)) = some (some (.agg #[.int .i64 0, .slice none 0 0]), 2, 32) := by kernel_rfl
theorem infoDisk : (Try.prog.info? 29).map (fun i => (i.zero, i.size, i.bytes)) = some (some (.agg #[.slice none 0 0, .slice none 0 0]), 2, 48) := by kernel_rfl
end Go.Proofs.Ytdjoflhcagfmiaa
