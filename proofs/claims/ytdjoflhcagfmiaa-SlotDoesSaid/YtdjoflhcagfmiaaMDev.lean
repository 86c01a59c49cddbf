/-
  What it means that a value reads as a disk: lists of sectors and of writes, in memory that came in, and in memory of the call's own; and how that lasts.
  Conditions: none.
-/
import Derived.Test.YtdjoflhcagfmiaaMBase
import Derived.Lib.Hide
import Derived.OwnWalk
import Derived.StillTailTactics
import Derived.Deep.RegionHeld3
import Derived.Laws.CopyOwn
import Derived.Test.YtdjoflhcagfmiaaRows
import Derived.Lib.SmallJoins
import Derived.Deep.Slices
import Derived.Deep.Fields
import Derived.ChangeSame
import Derived.SizedLaws
set_option linter.unusedVariables false
set_option linter.unusedSimpArgs false
set_option maxRecDepth 100000
namespace Go.Proofs.Ytdjoflhcagfmiaa
open Go.RowKit

/-- The slice v reads as the texts ss. -/
def SecsIn (W : World) (B : Nat) (v : Value) (ss : List Bs) : Prop :=
  ∃ (A : Option Addr) (cap : Nat), v = .slice A ss.length cap ∧ ss.length ≤ cap ∧ cap ≤ maxLen ∧ (A = none → cap = 0) ∧
    (0 < ss.length → ∃ b off, A = some ⟨b, off, none⟩ ∧ b < B ∧ ∀ j (h : j < ss.length), ∃ u, W.cell? ⟨b, off + j, none⟩ = some u ∧ Txt W B u ss[j])
/-- The slice v reads as the writes ws. -/
def WtsIn (W : World) (B : Nat) (v : Value) (ws : List Wr) : Prop :=
  ∃ (A : Option Addr) (cap : Nat), v = .slice A ws.length cap ∧ ws.length ≤ cap ∧ cap ≤ maxLen ∧ (A = none → cap = 0) ∧
    (0 < ws.length → ∃ b off, A = some ⟨b, off, none⟩ ∧ b < B ∧ ∀ j (h : j < ws.length), ∃ u, W.cell? ⟨b, off + j * 2, none⟩ = some (.int .i64 ws[j].1) ∧ W.cell? ⟨b, off + j * 2 + 1, none⟩ = some u ∧ Txt W B u ws[j].2)
/-- The slice v reads as the numbers ks. -/
def NumsIn (W : World) (B : Nat) (v : Value) (ks : List Int) : Prop :=
  ∃ (A : Option Addr) (cap : Nat), v = .slice A ks.length cap ∧ ks.length ≤ cap ∧ cap ≤ maxLen ∧ (A = none → cap = 0) ∧
    (0 < ks.length → ∃ b off, A = some ⟨b, off, none⟩ ∧ b < B ∧ ∀ j (h : j < ks.length), W.cell? ⟨b, off + j, none⟩ = some (.int .i64 ks[j]))
def DiskIn (W : World) (B : Nat) (d : Value) (ss : List Bs) (ws : List Wr) : Prop := ∃ v1 v2, d = .agg #[v1, v2] ∧ SecsIn W B v1 ss ∧ WtsIn W B v2 ws

section
variable {W W' : World} {B : Nat} {v : Value} {ss : List Bs} {ws : List Wr} {ks : List Int}
theorem SecsIn.below (h : SecsIn W B v ss) (hb : Below B W W') : SecsIn W' B v ss := by
  obtain ⟨A, cap, h0, h1, h2, hn, h3⟩ := h
  refine ⟨A, cap, h0, h1, h2, hn, fun hp => ?_⟩
  obtain ⟨b, off, ha, hlt, hc⟩ := h3 hp
  refine ⟨b, off, ha, hlt, fun j hj => ?_⟩
  obtain ⟨u, hu, ht⟩ := hc j hj
  exact ⟨u, (hb.cell (p := ⟨b, _, none⟩) hlt).trans hu, ht.below hb⟩
theorem WtsIn.below (h : WtsIn W B v ws) (hb : Below B W W') : WtsIn W' B v ws := by
  obtain ⟨A, cap, h0, h1, h2, hn, h3⟩ := h
  refine ⟨A, cap, h0, h1, h2, hn, fun hp => ?_⟩
  obtain ⟨b, off, ha, hlt, hc⟩ := h3 hp
  refine ⟨b, off, ha, hlt, fun j hj => ?_⟩
  obtain ⟨u, hi, hu, ht⟩ := hc j hj
  exact ⟨u, (hb.cell (p := ⟨b, _, none⟩) hlt).trans hi, (hb.cell (p := ⟨b, _, none⟩) hlt).trans hu, ht.below hb⟩
theorem NumsIn.below (h : NumsIn W B v ks) (hb : Below B W W') : NumsIn W' B v ks := by
  obtain ⟨A, cap, h0, h1, h2, hn, h3⟩ := h
  refine ⟨A, cap, h0, h1, h2, hn, fun hp => ?_⟩
  obtain ⟨b, off, ha, hlt, hc⟩ := h3 hp
  exact ⟨b, off, ha, hlt, fun j hj => (hb.cell (p := ⟨b, _, none⟩) hlt).trans (hc j hj)⟩
theorem DiskIn.below (h : DiskIn W B v ss ws) (hb : Below B W W') : DiskIn W' B v ss ws := by
  obtain ⟨v1, v2, rfl, h1, h2⟩ := h
  exact ⟨v1, v2, rfl, h1.below hb, h2.below hb⟩
theorem SecsIn.more {B' : Nat} (h : SecsIn W B v ss) (hB : B ≤ B') : SecsIn W B' v ss := by
  obtain ⟨A, cap, h0, h1, h2, hn, h3⟩ := h
  refine ⟨A, cap, h0, h1, h2, hn, fun hp => ?_⟩
  obtain ⟨b, off, ha, hlt, hc⟩ := h3 hp
  refine ⟨b, off, ha, by omega, fun j hj => ?_⟩
  obtain ⟨u, hu, ht⟩ := hc j hj
  exact ⟨u, hu, ht.more hB⟩
theorem WtsIn.more {B' : Nat} (h : WtsIn W B v ws) (hB : B ≤ B') : WtsIn W B' v ws := by
  obtain ⟨A, cap, h0, h1, h2, hn, h3⟩ := h
  refine ⟨A, cap, h0, h1, h2, hn, fun hp => ?_⟩
  obtain ⟨b, off, ha, hlt, hc⟩ := h3 hp
  refine ⟨b, off, ha, by omega, fun j hj => ?_⟩
  obtain ⟨u, hi, hu, ht⟩ := hc j hj
  exact ⟨u, hi, hu, ht.more hB⟩
theorem DiskIn.more {B' : Nat} (h : DiskIn W B v ss ws) (hB : B ≤ B') : DiskIn W B' v ss ws := by
  obtain ⟨v1, v2, rfl, h1, h2⟩ := h
  exact ⟨v1, v2, rfl, h1.more hB, h2.more hB⟩
theorem SecsIn.drewN (h : SecsIn W B v ss) (n : Nat) : SecsIn (W.drewN n) B v ss := h
theorem WtsIn.drewN (h : WtsIn W B v ws) (n : Nat) : WtsIn (W.drewN n) B v ws := h
theorem SecsIn.nil_ : SecsIn W B (.slice none 0 0) [] := ⟨none, 0, rfl, Nat.le_refl _, Nat.zero_le _, fun _ => rfl, fun h => absurd h (by simp)⟩
theorem WtsIn.nil_ : WtsIn W B (.slice none 0 0) [] := ⟨none, 0, rfl, Nat.le_refl _, Nat.zero_le _, fun _ => rfl, fun h => absurd h (by simp)⟩
theorem SecsIn.le (h : SecsIn W B v ss) : ss.length ≤ maxLen := by obtain ⟨A, cap, _, h1, h2, _, _⟩ := h; omega
theorem WtsIn.le (h : WtsIn W B v ws) : ws.length ≤ maxLen := by obtain ⟨A, cap, _, h1, h2, _, _⟩ := h; omega
theorem NumsIn.le (h : NumsIn W B v ks) : ks.length ≤ maxLen := by obtain ⟨A, cap, _, h1, h2, _, _⟩ := h; omega
/-- One element. -/
theorem SecsIn.at {A : Option Addr} {n cap : Nat} (h : SecsIn W B (.slice A n cap) ss) {j : Nat} (hj : j < ss.length) :
    ∃ b off u, A = some ⟨b, off, none⟩ ∧ b < B ∧ W.cell? ⟨b, off + j, none⟩ = some u ∧ Txt W B u ss[j] := by
  obtain ⟨A', cap', e, _, _, _, h3⟩ := h
  cases e
  obtain ⟨b, off, ha, hb, hc⟩ := h3 (by omega)
  obtain ⟨u, hu, ht⟩ := hc j hj
  exact ⟨b, off, u, ha, hb, hu, ht⟩
theorem WtsIn.at {A : Option Addr} {n cap : Nat} (h : WtsIn W B (.slice A n cap) ws) {j : Nat} (hj : j < ws.length) :
    ∃ b off u, A = some ⟨b, off, none⟩ ∧ b < B ∧ W.cell? ⟨b, off + j * 2, none⟩ = some (.int .i64 ws[j].1) ∧ W.cell? ⟨b, off + j * 2 + 1, none⟩ = some u ∧ Txt W B u ws[j].2 := by
  obtain ⟨A', cap', e, _, _, _, h3⟩ := h
  cases e
  obtain ⟨b, off, ha, hb, hc⟩ := h3 (by omega)
  obtain ⟨u, hi, hu, ht⟩ := hc j hj
  exact ⟨b, off, u, ha, hb, hi, hu, ht⟩
theorem NumsIn.at {A : Option Addr} {n cap : Nat} (h : NumsIn W B (.slice A n cap) ks) {j : Nat} (hj : j < ks.length) :
    ∃ b off, A = some ⟨b, off, none⟩ ∧ b < B ∧ W.cell? ⟨b, off + j, none⟩ = some (.int .i64 ks[j]) := by
  obtain ⟨A', cap', e, _, _, _, h3⟩ := h
  cases e
  obtain ⟨b, off, ha, hb, hc⟩ := h3 (by omega)
  exact ⟨b, off, ha, hb, hc j hj⟩
end

/-- A row of the call's own: texts, each a row of the call's own, no two in one block. -/
def SecsAt (W : World) (lo : Nat) (v : Value) (ss : List Bs) : Prop :=
  ∃ ys : List Value, W.ownsRow lo 34 1 v ss.length ys ∧ ys.length = ss.length ∧ ss.length ≤ maxLen ∧
    (∀ (j : Nat) (y : Value) (s : Bs), ys[j]? = some y → ss[j]? = some s → W.ownsRow lo 5 1 y s.length (s.map u8) ∧ s.length ≤ maxLen) ∧
    (∀ (i j : Nat) (y z : Value) (b : Nat), ys[i]? = some y → ys[j]? = some z → y.ownBlock = some b → z.ownBlock = some b → i = j)
/-- A row of the call's own: writes, each with a text of the call's own. -/
def wcells (ws : List Wr) (ys : List Value) : List Value := (List.zipWith (fun (w : Wr) y => [Value.int .i64 w.1, y]) ws ys).flatten
def WtsAt (W : World) (lo : Nat) (v : Value) (ws : List Wr) : Prop :=
  ∃ ys : List Value, W.ownsRow lo 52 2 v ws.length (wcells ws ys) ∧ ys.length = ws.length ∧ ws.length ≤ maxLen ∧
    (∀ (j : Nat) (y : Value) (w : Wr), ys[j]? = some y → ws[j]? = some w → W.ownsRow lo 5 1 y w.2.length (w.2.map u8) ∧ w.2.length ≤ maxLen)
def DiskAt (W : World) (lo : Nat) (d : Value) (ss : List Bs) (ws : List Wr) : Prop := ∃ v1 v2, d = .agg #[v1, v2] ∧ SecsAt W lo v1 ss ∧ WtsAt W lo v2 ws

theorem Txt.of_own {W : World} {lo : Nat} {v : Value} {xs : Bs} (h : W.ownsRow lo 5 1 v xs.length (xs.map u8)) (hl : xs.length ≤ maxLen) : Txt W W.heap.size v xs := Txt.own hl h
theorem SecsAt.in_ {W : World} {lo : Nat} {v : Value} {ss : List Bs} (h : SecsAt W lo v ss) : SecsIn W W.heap.size v ss := by
  obtain ⟨ys, ho, hl, hm, he, hd⟩ := h
  have ho' := ho
  rcases ho.2 with ⟨rfl, h0⟩ | ⟨g, cap, cur, rfl, _, hgb, hcap, hcur⟩
  · have hss : ss = [] := List.eq_nil_of_length_eq_zero h0
    subst hss
    exact SecsIn.nil_
  · refine ⟨_, cap, rfl, hcap, hcur.1, fun h => (by cases h), fun _ => ⟨g, 0, rfl, (Array.getElem?_eq_some_iff.1 hgb).1, fun j hj => ?_⟩⟩
    refine ⟨ys[j], ?_, ?_⟩
    · rw [Nat.zero_add, ho'.cellAt j (by omega), List.getElem?_eq_getElem (by omega)]
      first | done | rfl
    · have := he j ys[j] ss[j] (List.getElem?_eq_getElem (by omega)) (List.getElem?_eq_getElem hj)
      exact Txt.of_own this.1 this.2
theorem wcells_cons (w : Wr) (ws : List Wr) (y : Value) (ys : List Value) : wcells (w :: ws) (y :: ys) = Value.int .i64 w.1 :: y :: wcells ws ys := rfl
theorem wcells_length : ∀ (ws : List Wr) (ys : List Value), ys.length = ws.length → (wcells ws ys).length = 2 * ws.length
  | [], [], _ => rfl
  | w :: ws, y :: ys, h => by rw [wcells_cons]; have := wcells_length ws ys (by simpa using h); simp only [List.length_cons] at *; omega
theorem wcells_at : ∀ (ws : List Wr) (ys : List Value) (j : Nat) (w : Wr) (y : Value), ws[j]? = some w → ys[j]? = some y → (wcells ws ys)[j * 2]? = some (.int .i64 w.1) ∧ (wcells ws ys)[j * 2 + 1]? = some y
  | [], _, j, w, y, h, _ => by simp at h
  | w0 :: ws, [], j, w, y, _, h => by simp at h
  | w0 :: ws, y0 :: ys, 0, w, y, h, h' => by simp at h h'; subst h h'; exact ⟨rfl, rfl⟩
  | w0 :: ws, y0 :: ys, j + 1, w, y, h, h' => by
    have := wcells_at ws ys j w y (by simpa using h) (by simpa using h')
    rw [wcells_cons, show (j + 1) * 2 = j * 2 + 1 + 1 from by omega]
    simpa using this
theorem wcells_snoc : ∀ (ws : List Wr) (ys : List Value) (w : Wr) (y : Value), ys.length = ws.length → wcells (ws ++ [w]) (ys ++ [y]) = wcells ws ys ++ [.int .i64 w.1, y]
  | [], [], w, y, _ => rfl
  | w0 :: ws, y0 :: ys, w, y, h => by
    have := wcells_snoc ws ys w y (by simpa using h)
    simp only [List.cons_append, wcells_cons, this]
theorem WtsAt.in_ {W : World} {lo : Nat} {v : Value} {ws : List Wr} (h : WtsAt W lo v ws) : WtsIn W W.heap.size v ws := by
  obtain ⟨ys, ho, hl, hm, he⟩ := h
  have ho' := ho
  have hc := wcells_length ws ys hl
  rcases ho.2 with ⟨rfl, h0⟩ | ⟨g, cap, cur, rfl, _, hgb, hcap, hcur⟩
  · have hss : ws = [] := List.eq_nil_of_length_eq_zero h0
    subst hss
    exact WtsIn.nil_
  · refine ⟨_, cap, rfl, hcap, hcur.1, fun h => (by cases h), fun _ => ⟨g, 0, rfl, (Array.getElem?_eq_some_iff.1 hgb).1, fun j hj => ?_⟩⟩
    have hw : ws[j]? = some ws[j] := List.getElem?_eq_getElem hj
    have hy : ys[j]? = some ys[j] := List.getElem?_eq_getElem (by omega)
    obtain ⟨c1, c2⟩ := wcells_at ws ys j _ _ hw hy
    refine ⟨ys[j], ?_, ?_, ?_⟩
    · rw [Nat.zero_add, ho'.cellAt (j * 2) (by omega), c1]; first | done | rfl
    · rw [Nat.zero_add, ho'.cellAt (j * 2 + 1) (by omega), c2]; first | done | rfl
    · have := he j _ _ hy hw
      exact Txt.of_own this.1 this.2
theorem DiskAt.in_ {W : World} {lo : Nat} {d : Value} {ss : List Bs} {ws : List Wr} (h : DiskAt W lo d ss ws) : DiskIn W W.heap.size d ss ws := by
  obtain ⟨v1, v2, rfl, h1, h2⟩ := h
  exact ⟨v1, v2, rfl, h1.in_, h2.in_⟩
theorem SecsAt.nil_ (W : World) (lo : Nat) : SecsAt W lo (.slice none 0 0) [] := ⟨[], World.ownsRow_nil _ _ _ _, rfl, by simp, fun j y s h => by simp at h, fun i j y z b h => by simp at h⟩
theorem WtsAt.nil_ (W : World) (lo : Nat) : WtsAt W lo (.slice none 0 0) [] := ⟨[], World.ownsRow_nil _ _ _ _, rfl, by simp, fun j y w h => by simp at h⟩
theorem DiskAt.nil_ (W : World) (lo : Nat) : DiskAt W lo (.agg #[.slice none 0 0, .slice none 0 0]) [] [] := ⟨_, _, rfl, SecsAt.nil_ W lo, WtsAt.nil_ W lo⟩
theorem SecsAt.below {W W' : World} {lo : Nat} {v : Value} {ss : List Bs} (h : SecsAt W lo v ss) (hb : Below W.heap.size W W') : SecsAt W' lo v ss := by
  obtain ⟨ys, ho, hl, hm, he, hd⟩ := h
  exact ⟨ys, owns_below ho hb, hl, hm, fun j y s h1 h2 => ⟨owns_below (he j y s h1 h2).1 hb, (he j y s h1 h2).2⟩, hd⟩
theorem WtsAt.below {W W' : World} {lo : Nat} {v : Value} {ws : List Wr} (h : WtsAt W lo v ws) (hb : Below W.heap.size W W') : WtsAt W' lo v ws := by
  obtain ⟨ys, ho, hl, hm, he⟩ := h
  exact ⟨ys, owns_below ho hb, hl, hm, fun j y s h1 h2 => ⟨owns_below (he j y s h1 h2).1 hb, (he j y s h1 h2).2⟩⟩
theorem owns_mono {W : World} {lo lo' e size n : Nat} {v : Value} {ys : List Value} (h : W.ownsRow lo e size v n ys) (hl : lo' ≤ lo) : W.ownsRow lo' e size v n ys := by
  refine ⟨h.1, ?_⟩
  rcases h.2 with h2 | ⟨g, cap, cur, h1, h2, h3, h4⟩
  · exact .inl h2
  · exact .inr ⟨g, cap, cur, h1, Nat.le_trans hl h2, h3, h4⟩
theorem SecsAt.mono {W : World} {lo lo' : Nat} {v : Value} {ss : List Bs} (h : SecsAt W lo v ss) (hl : lo' ≤ lo) : SecsAt W lo' v ss := by
  obtain ⟨ys, ho, hle, hm, he, hd⟩ := h
  exact ⟨ys, owns_mono ho hl, hle, hm, fun j y s h1 h2 => ⟨owns_mono (he j y s h1 h2).1 hl, (he j y s h1 h2).2⟩, hd⟩
theorem WtsAt.mono {W : World} {lo lo' : Nat} {v : Value} {ws : List Wr} (h : WtsAt W lo v ws) (hl : lo' ≤ lo) : WtsAt W lo' v ws := by
  obtain ⟨ys, ho, hle, hm, he⟩ := h
  exact ⟨ys, owns_mono ho hl, hle, hm, fun j y s h1 h2 => ⟨owns_mono (he j y s h1 h2).1 hl, (he j y s h1 h2).2⟩⟩
theorem DiskAt.below {W W' : World} {lo : Nat} {d : Value} {ss : List Bs} {ws : List Wr} (h : DiskAt W lo d ss ws) (hb : Below W.heap.size W W') : DiskAt W' lo d ss ws := by
  obtain ⟨v1, v2, rfl, h1, h2⟩ := h
  exact ⟨v1, v2, rfl, h1.below hb, h2.below hb⟩
theorem DiskAt.mono {W : World} {lo lo' : Nat} {d : Value} {ss : List Bs} {ws : List Wr} (h : DiskAt W lo d ss ws) (hl : lo' ≤ lo) : DiskAt W lo' d ss ws := by
  obtain ⟨v1, v2, rfl, h1, h2⟩ := h
  exact ⟨v1, v2, rfl, h1.mono hl, h2.mono hl⟩
theorem infoSlice : (Try.prog.info? 34).map (fun i => (i.zero, i.size, i.bytes)) = some (some (.slice none 0 0), 1, 24) := by kernel_rfl
theorem infoWrite : (Try.prog.info? 52).map (fun i => (i.zero, i.size, i.bytes)) = some (some (.agg #[.int .i64 0, .slice none 0 0]), 2, 32) := by kernel_rfl
theorem infoDisk : (Try.prog.info? 29).map (fun i => (i.zero, i.size, i.bytes)) = some (some (.agg #[.slice none 0 0, .slice none 0 0]), 2, 48) := by kernel_rfl
end Go.Proofs.Ytdjoflhcagfmiaa

/-
  Whether a disk may be, as the program asks it.
  Conditions: none.
-/
set_option linter.unusedVariables false
set_option linter.unusedSimpArgs false
set_option maxRecDepth 100000
namespace Go.Proofs.Ytdjoflhcagfmiaa
open Go.RowKit

theorem cell2_of {w : World} {b : Nat} {v1 v2 : Value} {t : TypeId} {fr : Nat × Nat} (h : w.heap[b]? = some (.cells #[v1, v2] t fr)) : w.cell? ⟨b, 0, none⟩ = some v1 ∧ w.cell? ⟨b, 1, none⟩ = some v2 :=
  ⟨by rw [cell_of_row _ _ _ _ _ _ h]; rfl, by rw [cell_of_row _ _ _ _ _ _ h]; rfl⟩
theorem range2_of {w : World} {b : Nat} {v1 v2 : Value} {t : TypeId} {fr : Nat × Nat} (h : w.heap[b]? = some (.cells #[v1, v2] t fr)) : w.rangeAt b 0 [v1, v2] := fun j v hv => by
  rw [Nat.zero_add, cell_of_row _ _ _ _ _ _ h]
  simpa using hv
theorem infoDisk2 : (Try.prog.info? 29).map (·.size) = some 2 := by kernel_rfl
theorem infoWrite2 : (Try.prog.info? 52).map (·.size) = some 2 := by kernel_rfl

theorem below_any (n e : Int) (w : World) : Calls Try.prog 46 #[.int .i64 n, .int .i64 e] w fun r w' => r = .returned (.bool (decide (0 ≤ n ∧ n < e))) ∧ w = w' := by
  by_cases h : 0 ≤ n
  · go_enter Try.func46, Try.ntmps46
    go_wp2
    go_ret
    simp [h]
  · go_enter Try.func46, Try.ntmps46
    go_wp2
    go_ret
    simp [h]
    omega

def okWB (w : Wr) : Bool := decide (0 ≤ w.1 ∧ w.1 < 32) && decide (w.2.length = 128)
def mayB (ss : List Bs) (ws : List Wr) : Bool := decide (ss.length = 32) && decide (ws.length ≤ 256) && ss.all (fun s => decide (s.length = 128)) && ws.all okWB
theorem mayB_iff {ss : List Bs} {ws : List Wr} : mayB ss ws = true ↔ May ss ws := by
  simp only [mayB, okWB, Bool.and_eq_true, decide_eq_true_eq, List.all_eq_true]
  exact ⟨fun h => ⟨h.1.1.1, h.1.1.2, h.1.2, fun x hx => ⟨(h.2 x hx).1.1, (h.2 x hx).1.2, (h.2 x hx).2⟩⟩, fun h => ⟨⟨⟨h.n, h.m⟩, h.s⟩, fun x hx => ⟨⟨(h.w x hx).1, (h.w x hx).2.1⟩, (h.w x hx).2.2⟩⟩⟩

theorem mayB_n {ss : List Bs} {ws : List Wr} (h : ss.length ≠ 32) : mayB ss ws = false := by
  cases e : mayB ss ws with
  | false => rfl
  | true => exact absurd (mayB_iff.1 e).n h
theorem mayB_m {ss : List Bs} {ws : List Wr} (h : ¬ ws.length ≤ 256) : mayB ss ws = false := by
  cases e : mayB ss ws with
  | false => rfl
  | true => exact absurd (mayB_iff.1 e).m h
theorem mayB_s {ss : List Bs} {ws : List Wr} {j : Nat} (hj : j < ss.length) (h : ¬ ss[j].length = 128) : mayB ss ws = false := by
  cases e : mayB ss ws with
  | false => rfl
  | true => exact absurd ((mayB_iff.1 e).s _ (List.getElem_mem hj)) h
theorem mayB_w {ss : List Bs} {ws : List Wr} {j : Nat} (hj : j < ws.length) (h : ¬ okW ws[j]) : mayB ss ws = false := by
  cases e : mayB ss ws with
  | false => rfl
  | true => exact absurd ((mayB_iff.1 e).w _ (List.getElem_mem hj)) h
theorem mayB_all {ss : List Bs} {ws : List Wr} (hn : ss.length = 32) (hm : ws.length ≤ 256) (hs : ∀ j (h : j < ss.length), ss[j].length = 128) (hw : ∀ j (h : j < ws.length), okW ws[j]) : mayB ss ws = true :=
  mayB_iff.2 ⟨hn, hm, fun x hx => by obtain ⟨j, hj, rfl⟩ := List.mem_iff_getElem.1 hx; exact hs j hj, fun x hx => by obtain ⟨j, hj, rfl⟩ := List.mem_iff_getElem.1 hx; exact hw j hj⟩

set_option maxHeartbeats 1000000 in
theorem check_any (d : Value) (ss : List Bs) (ws : List Wr) (w : World) (hd : DiskIn w w.heap.size d ss ws) :
    Calls Try.prog 26 #[d] w fun e w' => e = .returned (.int .i64 (if mayB ss ws then 0 else 8)) ∧ Below w.heap.size w w' := by
  obtain ⟨v1, v2, rfl, h1, h2⟩ := hd
  have H1 := Lib.hid h1
  have H2 := Lib.hid h2
  obtain ⟨A1, c1, rfl, -, -, -, -⟩ := h1
  obtain ⟨A2, c2, rfl, -, -, -, -⟩ := h2
  have hb0 : Below w.heap.size w (w.alloc (.cells #[.slice A1 ss.length c1, .slice A2 ws.length c2] 29)) := below_new w _
  have HB0 := Lib.hid hb0
  clear hb0
  obtain ⟨r, hr⟩ : ∃ r : Int, r = if mayB ss ws then 0 else 8 := ⟨_, rfl⟩
  rw [← hr]
  have HR := Lib.hid hr
  clear hr
  by_cases hn : ss.length = 32
  · have hn' : (ss.length : Int) = 32 := by omega
    have HN := Lib.hid hn
    clear hn
    by_cases hm : ws.length ≤ 256
    · have hm' : ¬ (256 < (ws.length : Int)) := by omega
      go_enter Try.func26, Try.ntmps26
      go_wp2_with fail
      have hb1 : (w.alloc (.cells #[.slice A1 ss.length c1, .slice A2 ws.length c2] 29)).heap[w.heap.size]? = some (.cells #[.slice A1 ss.length c1, .slice A2 ws.length c2] 29 (0, 0)) := heap_alloc_self _ _
      generalize w.alloc (.cells #[.slice A1 ss.length c1, .slice A2 ws.length c2] 29) = w1 at HB0 hb1 ⊢
      have HB1 := Lib.hid hb1
      clear hb1
      go_loopw [20] (fun s20 wr => ∃ i : Nat, i ≤ ss.length ∧ s20 = .int .i64 i ∧ Hid (∀ j (h : j < ss.length), j < i → ss[j].length = 128) ∧ wr = w1) (fun s20 _ => 32 - (intOf s20).toNat)
      case atStart => exact ⟨0, by omega, rfl, Lib.hid (fun j h h' => absurd h' (by omega)), rfl⟩
      case round =>
        obtain ⟨i, hi, rfl, hall, rfl⟩ := hrel
        by_cases hlt : i < ss.length
        · have hlt' : (i : Int) < ss.length := by omega
          obtain ⟨b, off, u, rfl, hbb, hc, ht⟩ := (H1.out.below HB0.out).at hlt
          obtain ⟨A3, c3, rfl, -, -, -, -⟩ := ht
          by_cases hl : ss[i].length = 128
          · have hl' : (ss[i].length : Int) = 128 := by omega
            have HL := Lib.hid hl
            clear hl
            go_wp2_with fail
            go_roundw
            case measure => have := HN.out; simp [intOf]; omega
            case rel => exact ⟨i + 1, by omega, by go_num, Lib.hid (fun j h h' => by
              rcases Nat.lt_or_ge j i with h2 | h2
              · exact hall.out j h h2
              · obtain rfl : j = i := by omega
                exact HL.out), by first | rfl | trivial⟩
          · have hl' : ¬ ((ss[i].length : Int) = 128) := by omega
            go_wp2_with fail
            go_ret
            exact ⟨by rw [HR.out, mayB_s hlt hl]; rfl, HB0.out⟩
        · have hlt' : ¬ ((i : Int) < ss.length) := by omega
          have hall' : Hid (∀ j (h : j < ss.length), ss[j].length = 128) := Lib.hid (fun j h => hall.out j h (by omega))
          obtain ⟨hb10, hb11⟩ := cell2_of HB1.out
          clear hall
          go_wp2_with fail
          go_loopw [31] (fun s31 wx => ∃ i : Nat, i ≤ ws.length ∧ s31 = .int .i64 i ∧ Hid (∀ j (h : j < ws.length), j < i → okW ws[j]) ∧ Below w.heap.size w wx) (fun s31 _ => ws.length - (intOf s31).toNat)
          case atStart => exact ⟨0, by omega, rfl, Lib.hid (fun j h h' => absurd h' (by omega)), HB0.out⟩
          case round =>
            obtain ⟨k, hk, rfl, hok, hbx⟩ := hrel
            clear hb10 hb11 hlt' hlt
            have HBX := Lib.hid hbx
            clear hbx
            by_cases hlt : k < ws.length
            · have hlt' : (k : Int) < ws.length := by omega
              obtain ⟨b, off, u, rfl, hbb, hc0, hc1, ht⟩ := (H2.out.below HBX.out).at hlt
              obtain ⟨A3, c3, rfl, -, -, -, -⟩ := ht
              by_cases ha : 0 ≤ ws[k].1 ∧ ws[k].1 < 32
              · have hda : decide (0 ≤ ws[k].1 ∧ ws[k].1 < 32) = true := decide_eq_true ha
                by_cases hl : ws[k].2.length = 128
                · have hl' : (ws[k].2.length : Int) = 128 := by omega
                  have HOK := Lib.hid (show okW ws[k] from ⟨ha.1, ha.2, hl⟩)
                  clear hl ha
                  go_wp2_with (refine (below_any _ _ _).mono ?_; rintro e w' ⟨rfl, rfl⟩)
                  go_roundw
                  case measure => simp [intOf]; omega
                  case rel => exact ⟨k + 1, by omega, by go_num, Lib.hid (fun j h h' => by
                    rcases Nat.lt_or_ge j k with h2 | h2
                    · exact hok.out j h h2
                    · obtain rfl : j = k := by omega
                      exact HOK.out), HBX.out.alloc HBX.out.size _⟩
                · have hl' : ¬ ((ws[k].2.length : Int) = 128) := by omega
                  have hno : mayB ss ws = false := mayB_w hlt (fun h => hl h.2.2)
                  have HNO := Lib.hid hno
                  clear hno hl ha
                  go_wp2_with (refine (below_any _ _ _).mono ?_; rintro e w' ⟨rfl, rfl⟩)
                  go_ret
                  exact ⟨by rw [HR.out, HNO.out]; rfl, HBX.out.alloc HBX.out.size _⟩
              · have hda : decide (0 ≤ ws[k].1 ∧ ws[k].1 < 32) = false := decide_eq_false ha
                have hno : mayB ss ws = false := mayB_w hlt (fun h => ha ⟨h.1, h.2.1⟩)
                have HNO := Lib.hid hno
                clear hno ha
                go_wp2_with (refine (below_any _ _ _).mono ?_; rintro e w' ⟨rfl, rfl⟩)
                go_ret
                exact ⟨by rw [HR.out, HNO.out]; rfl, HBX.out.alloc HBX.out.size _⟩
            · have hlt' : ¬ ((k : Int) < ws.length) := by omega
              go_wp2_with fail
              go_ret
              exact ⟨by rw [HR.out, mayB_all HN.out hm hall'.out (fun j h => hok.out j h (by omega))]; rfl, HBX.out⟩
    · have hm' : 256 < (ws.length : Int) := by omega
      have HNO := Lib.hid (mayB_m (ss := ss) hm)
      clear hm
      go_enter Try.func26, Try.ntmps26
      go_wp2_with fail
      go_ret
      exact ⟨by rw [HR.out, HNO.out]; rfl, HB0.out⟩
  · have hn' : ¬ ((ss.length : Int) = 32) := by omega
    have HNO := Lib.hid (mayB_n (ws := ws) hn)
    clear hn
    go_enter Try.func26, Try.ntmps26
    go_wp2_with fail
    go_ret
    exact ⟨by rw [HR.out, HNO.out]; rfl, HB0.out⟩

/-- The error of a disk and a sector's number. -/
def atE (ss : List Bs) (ws : List Wr) (at_ : Int) : Int := if mayB ss ws then (if 0 ≤ at_ ∧ at_ < 32 then 0 else 2) else 8
theorem checkAt_any (d : Value) (ss : List Bs) (ws : List Wr) (n : Int) (w : World) (hd : DiskIn w w.heap.size d ss ws) :
    Calls Try.prog 45 #[d, .int .i64 n] w fun e w' => e = .returned (.int .i64 (atE ss ws n)) ∧ Below w.heap.size w w' := by
  obtain ⟨v1, v2, rfl, h1, h2⟩ := id hd
  have HD := Lib.hid hd
  clear hd h1 h2
  have HB0 := Lib.hid (below_new w (.cells #[v1, v2] 29))
  have hc := check_any _ ss ws _ ((HD.out.below HB0.out).more HB0.out.size)
  cases hm : mayB ss ws with
  | false =>
    have hE : Hid (atE ss ws n = 8) := Lib.hid (by simp [atE, hm])
    rw [hm] at hc
    have HC := Lib.hid hc
    clear hc
    go_enter Try.func45, Try.ntmps45
    go_wp2_with (refine HC.out.mono ?_; rintro e w1 ⟨rfl, b⟩; simp only [Bool.false_eq_true, ↓reduceIte])
    go_ret
    exact ⟨by rw [hE.out]; rfl, (HB0.out.trans (b.mono HB0.out.size))⟩
  | true =>
    rw [hm] at hc
    have HC := Lib.hid hc
    clear hc
    by_cases ha : 0 ≤ n ∧ n < 32
    · have hda : decide (0 ≤ n ∧ n < 32) = true := decide_eq_true ha
      have hE : Hid (atE ss ws n = 0) := Lib.hid (by simp [atE, hm, ha])
      clear ha
      go_enter Try.func45, Try.ntmps45
      go_wp2_with (first | (refine HC.out.mono ?_; rintro e w1 ⟨rfl, b⟩; simp only [↓reduceIte]) | (refine (below_any _ _ _).mono ?_; rintro e w' ⟨rfl, rfl⟩))
      go_ret
      exact ⟨by rw [hE.out]; rfl, (HB0.out.trans (b.mono HB0.out.size))⟩
    · have hda : decide (0 ≤ n ∧ n < 32) = false := decide_eq_false ha
      have hE : Hid (atE ss ws n = 2) := Lib.hid (by simp [atE, hm, ha])
      clear ha
      go_enter Try.func45, Try.ntmps45
      go_wp2_with (first | (refine HC.out.mono ?_; rintro e w1 ⟨rfl, b⟩; simp only [↓reduceIte]) | (refine (below_any _ _ _).mono ?_; rintro e w' ⟨rfl, rfl⟩))
      go_ret
      exact ⟨by rw [hE.out]; rfl, (HB0.out.trans (b.mono HB0.out.size))⟩

theorem whole_any (n : Int) (w : World) : Calls Try.prog 50 #[.int .i64 n] w fun e w' => e = .returned (.int .i64 128) ∧ w = w' := by
  go_enter Try.func50, Try.ntmps50
  go_wp2_with fail
  go_ret
  exact ⟨rfl, rfl⟩
theorem crash1_any (i : Nat) (bk : Nat) (v : Value) (ks : List Int) (w : World) {B : Nat} (hv : NumsIn w B v ks) (hi : i < ks.length) (hb : w.heap[bk]? = some (.cells #[v] 64 (0, 0))) :
    Calls Try.prog 53 #[.int .i64 i, .pointer (some ⟨bk, 0, none⟩)] w fun e w' => e = .returned (.int .i64 ks[i]) ∧ w = w' := by
  have HV := Lib.hid hv
  obtain ⟨A, c, rfl, -, -, -, -⟩ := hv
  obtain ⟨b, off, rfl, -, hc⟩ := HV.out.at hi
  have hc0 : w.cell? ⟨bk, 0, none⟩ = some (.slice (some ⟨b, off, none⟩) ks.length c) := by rw [cell_of_row _ _ _ _ _ _ hb]; rfl
  have hi' : (i : Int) < ks.length := by omega
  clear hb
  go_enter Try.func53, Try.ntmps53
  go_wp2_with fail
  go_ret
  exact ⟨rfl, rfl⟩
end Go.Proofs.Ytdjoflhcagfmiaa

/-
  Copies of bytes and of a write, and whether two are the same, as the program asks it.
  Conditions: none.
-/
set_option linter.unusedVariables false
set_option linter.unusedSimpArgs false
set_option maxRecDepth 100000
namespace Go.Proofs.Ytdjoflhcagfmiaa
open Go.RowKit

theorem heap_lt {w : World} {b : Nat} {o : Obj} (h : w.heap[b]? = some o) : b < w.heap.size := (Array.getElem?_eq_some_iff.1 h).1

theorem clone_any (v : Value) (xs : Bs) (w : World) {B : Nat} (hB : B ≤ w.heap.size) (h : Txt w B v xs) (hl : xs.length ≤ 140737488355328) :
    Calls Try.prog 48 #[v] w fun e w' => ∃ y, e = .returned y ∧ w'.ownsRow w.heap.size 5 1 y xs.length (xs.map u8) ∧ Below w.heap.size w w' := by
  have H := Lib.hid h
  obtain ⟨A, cap, rfl, -, -, hn, -⟩ := h
  cases A with
  | none =>
    obtain rfl := hn rfl
    have hx : xs = [] := by obtain ⟨A', c', e, h1, _⟩ := H.out; cases e; exact List.eq_nil_of_length_eq_zero (by omega)
    subst hx
    have he : ∀ w : World, (binOp .eql 34 (.slice none 0 0) (.slice none 0 0)).run Try.prog w = .ok (.bool true) w := fun _ => rfl
    go_enter Try.func48, Try.ntmps48
    go_wp2_with fail
    go_ret
    exact ⟨_, rfl, World.ownsRow_nil _ _ _ _, Below.refl _ _⟩
  | some a =>
    obtain ⟨i0, hi, hz0, hz1, hz2⟩ := info_parts infoByte
    have I0 := Lib.hid hi
    have I1 := Lib.hid hz0
    have I2 := Lib.hid hz1
    have I3 := Lib.hid hz2
    have he : ∀ w : World, (binOp .eql 34 (.slice (some a) xs.length cap) (.slice none 0 0)).run Try.prog w = .ok (.bool false) w := fun _ => rfl
    clear hi hz0 hz1 hz2 hn
    go_enter Try.func48, Try.ntmps48
    go_wp2_with (refine wpList_append_txt (o := ⟨some 7, _, _, _, _, _⟩) rfl (.tmp 5) (.tmp 6) _ rfl Try.underlying34 I0.out I1.out I2.out I3.out rfl (base := w.heap.size) (n := 0) (ys := []) ⟨rfl, .inr ⟨_, _, _, rfl, Nat.le_refl _, heap_alloc_self _ _, Nat.zero_le _, Nat.zero_le _, rfl, rfl⟩⟩ rfl (H.out.below ((Below.refl _ _).alloc hB _)) (by omega) (by simp) ?_; intro v1 w1 hown1 hgrow1)
    go_ret
    exact ⟨_, rfl, by simpa using hown1, (below_new w _).grown hgrow1 (by simp) (fun k hk => by cases hk; exact Nat.le_refl _)⟩

theorem equal_any (v y : Value) (xs ys : Bs) (w : World) {B B' : Nat} (h : Txt w B v xs) (h' : Txt w B' y ys) :
    Calls Try.prog 55 #[v, y] w fun e w' => e = .returned (.bool (decide (xs = ys))) ∧ w = w' := by
  have c1 := run_txt_string h
  have c2 := run_txt_string h'
  have hd : decide ((⟨xs.toArray⟩ : ByteArray) = ⟨ys.toArray⟩) = decide (xs = ys) := by
    apply decide_eq_decide.2
    constructor
    · intro e
      have := congrArg (fun b : ByteArray => b.data.toList) e
      simpa using this
    · rintro rfl; rfl
  have HD := Lib.hid hd
  clear hd h h'
  go_enter Try.func55, Try.ntmps55
  go_wp2_with fail
  go_ret
  exact ⟨by rw [show (xs == ys) = decide (xs = ys) from by rw [Bool.eq_iff_iff]; simp]; rfl, rfl⟩

/-- A write, as a value, in memory. -/
def WrIn (W : World) (B : Nat) (v : Value) (x : Wr) : Prop := ∃ u, v = .agg #[.int .i64 x.1, u] ∧ Txt W B u x.2
theorem wp_load_2 {P : Program} {op : Oper} {a : Act} {w : World} {K : Act → World → Prop} {Q : Exit → Act → World → Prop} (ty : TypeId) (x : Operand) (ho : op.op = .load ty x)
    (b : Nat) (hx : a.eval x = .pointer (some ⟨b, 0, none⟩)) {v1 v2 : Value} {t : TypeId} {fr : Nat × Nat} (hb : w.heap[b]? = some (.cells #[v1, v2] t fr)) {fs : Array Field} (hu : P.underlying ty = some (.struct fs)) (hi : (P.info? ty).map (·.size) = some 2)
    (h : K (a.put op.dst (.agg #[v1, v2])) w) : op.wp P a w K Q := wp_load_mid ty x ho b 0 hx [v1, v2] _ (range2_of hb) hu rfl hi h
theorem set2 (w : World) (b : Nat) (v1 v2 : Value) : w.setRow b #[v1, v2] = w.setRow b #[v1, v2] := rfl
/-- A struct of two cells into a block that holds one, as one operation. -/
theorem wp_store_2 {P : Program} {op : Oper} {a : Act} {w : World} {K : Act → World → Prop} {Q : Exit → Act → World → Prop} (ty : TypeId) (x y : Operand) (ho : op.op = .store ty x y)
    (b : Nat) (hx : a.eval x = .pointer (some ⟨b, 0, none⟩)) {c1 c2 v1 v2 : Value} (hy : a.eval y = .agg #[v1, v2]) {t : TypeId} (hb : w.heap[b]? = some (.cells #[c1, c2] t (0, 0)))
    (hi : (P.info? ty).map (·.size) = some 2) (h1 : v1.oneCell' = true) (h2 : v2.oneCell' = true)
    (h : K (a.put op.dst undef) (w.setRow b #[v1, v2])) : op.wp P a w K Q := by
  unfold Oper.wp execOp
  simp only [ho, hx, hy, Instr.storeAt, Instr.sureAddr, Sem.run_bind, Sem.run_pure, Result.andThen_ok]
  rw [run_storeVar_row w b t ty #[c1, c2] #[v1, v2] hb hi rfl (by simp [h1, h2])]
  exact h
theorem owns_setRow {w : World} {base e size n : Nat} {v : Value} {ys : List Value} (h : w.ownsRow base e size v n ys) {g : Nat} (hg : g < base) (cs : Array Value) : (w.setRow g cs).ownsRow base e size v n ys := by
  refine ⟨h.1, ?_⟩
  rcases h.2 with h2 | ⟨b, cap, cur, h1, h2, h3, h4⟩
  · exact .inl h2
  · exact .inr ⟨b, cap, cur, h1, h2, (setRow_other w g b cs (by omega)).trans h3, h4⟩
theorem own_oneCell {w : World} {base e size n : Nat} {v : Value} {ys : List Value} (h : w.ownsRow base e size v n ys) : v.oneCell' = true := by
  rcases h.2 with ⟨rfl, _⟩ | ⟨g, cap, cur, rfl, _⟩ <;> rfl
/-- The results of a function whose result is a struct of two cells in memory. -/
theorem results_cell_2 {P : Program} {fn : Func} {p : Tmp} {ty : TypeId} (h : fn.results = #[.cell p ty]) (tmps : Array Value) (w : World) (g : Nat) {v1 v2 : Value} {t : TypeId} (hp : tmps.getD p undef = .pointer (some ⟨g, 0, none⟩)) (hb : w.heap[g]? = some (.cells #[v1, v2] t (0, 0)))
    {fs : Array Field} (hu : P.underlying ty = some (.struct fs)) (hi : (P.info? ty).map (·.size) = some 2) : (results fn tmps).run P w = .ok (.agg #[v1, v2]) w :=
  results_cell_row h tmps w g t #[v1, v2] (0, 0) _ hp hb hu rfl (by simpa using hi)
theorem twinWrite_any (v : Value) (a : Wr) (w : World) {B : Nat} (hB : B ≤ w.heap.size) (h : WrIn w B v a) (hl : a.2.length ≤ 140737488355328) :
    Calls Try.prog 73 #[v] w fun e w' => ∃ y, e = .returned (.agg #[.int .i64 a.1, y]) ∧ w'.ownsRow w.heap.size 5 1 y a.2.length (a.2.map u8) ∧ Below w.heap.size w w' := by
  obtain ⟨u1, rfl, t1⟩ := h
  have T1 := Lib.hid t1
  clear t1
  have HB0 : Hid (Below w.heap.size w ((w.alloc (.cells #[.int .i64 a.1, u1] 52)).alloc (.cells #[.int .i64 0, .slice none 0 0] 52))) := Lib.hid ((below_new w _).alloc (by simp) _)
  have hc1 : ((w.alloc (.cells #[.int .i64 a.1, u1] 52)).alloc (.cells #[.int .i64 0, .slice none 0 0] 52)).heap[w.heap.size]? = some (.cells #[.int .i64 a.1, u1] 52 (0, 0)) := by
    rw [heap_alloc_lt _ _ (by rw [heap_alloc_size]; omega)]; exact heap_alloc_self _ _
  have hc2 : ((w.alloc (.cells #[.int .i64 a.1, u1] 52)).alloc (.cells #[.int .i64 0, .slice none 0 0] 52)).heap[w.heap.size + 1]? = some (.cells #[.int .i64 0, .slice none 0 0] 52 (0, 0)) := by
    have := heap_alloc_self (w.alloc (.cells #[.int .i64 a.1, u1] 52)) (.cells #[.int .i64 0, .slice none 0 0] 52)
    rwa [heap_alloc_size] at this
  go_enter Try.func73, Try.ntmps73
  go_wp2_with fail
  generalize (w.alloc (.cells #[.int .i64 a.1, u1] 52)).alloc (.cells #[.int .i64 0, .slice none 0 0] 52) = q at HB0 hc1 hc2 ⊢
  have C1 := Lib.hid hc1
  have C2 := Lib.hid hc2
  have R0 : Hid (Below w.heap.size w q.drew) := Lib.hid (HB0.out.drew)
  have R1 : Hid (Below q.heap.size q q.drew) := Lib.hid (Below.refl _ q).drew
  clear hc1 hc2
  refine wp_region_held_drew (S := fun v => v.heap[w.heap.size]? = some (.cells #[.int .i64 a.1, u1] 52 (0, 0))) (by kernel_rfl) ?_ (fun hHeld => ?_)
  · exact C1.out
  refine wpAnyH_take (i := 0) (v := ?_) rfl (by kernel_rfl) (by kernel_rfl) (by kernel_rfl) (fun _ _ _ h => h) (Or.inl ⟨by rfl, ?_⟩) hHeld ?_
  rotate_left
  · intro w' hSw; go_simp; try with_reducible rfl
  simp only [List.getElem_toArray, List.getElem_cons_succ, List.getElem_cons_zero, Act.put, List.setIfInBounds_toArray, List.set_cons_zero, List.set_cons_succ]
  refine wpAnyH_take (i := 1) (v := ?_) rfl (by kernel_rfl) (by kernel_rfl) (by kernel_rfl) (fun _ _ _ h => h) (Or.inl ⟨by rfl, ?_⟩) hHeld ?_
  rotate_left
  · intro w' hSw; obtain ⟨c0, c1⟩ := cell2_of hSw; go_simp; try with_reducible rfl
  simp only [List.getElem_toArray, List.getElem_cons_succ, List.getElem_cons_zero, Act.put, List.setIfInBounds_toArray, List.set_cons_zero, List.set_cons_succ]
  refine wpAnyH_take (i := 2) (v := ?_) rfl (by kernel_rfl) (by kernel_rfl) (by kernel_rfl) (fun _ _ _ h => h) (Or.inl ⟨by rfl, ?_⟩) hHeld ?_
  rotate_left
  · intro w' hSw; go_simp; try with_reducible rfl
  simp only [List.getElem_toArray, List.getElem_cons_succ, List.getElem_cons_zero, Act.put, List.setIfInBounds_toArray, List.set_cons_zero, List.set_cons_succ]
  refine wpAnyH_take (i := 3) (v := ?_) rfl (by kernel_rfl) (by kernel_rfl) (by kernel_rfl) (fun _ _ _ h => h) (Or.inl ⟨by rfl, ?_⟩) hHeld ?_
  rotate_left
  · intro w' hSw; obtain ⟨c0, c1⟩ := cell2_of hSw; go_simp; try with_reducible rfl
  simp only [List.getElem_toArray, List.getElem_cons_succ, List.getElem_cons_zero, Act.put, List.setIfInBounds_toArray, List.set_cons_zero, List.set_cons_succ]
  refine wpAnyH_ready (rs := [4]) (by kernel_rfl) (by simp) ?_
  refine AllReadyH.cons rfl (fun K hK => ?_) AllReadyH.nil
  go_simp
  refine (clone_any _ _ q.drew (B := B) (Nat.le_trans hB R0.out.size) (T1.out.below (R0.out.mono hB)) hl).mono ?_
  rintro e wA ⟨y, rfl, hoA, bA⟩
  have OA := Lib.hid hoA
  have R2 := Lib.hid (R1.out.trans (bA.mono R1.out.size))
  obtain ⟨A9, c9, rfl⟩ := own_slice_ hoA
  clear hoA bA
  try go_wp2_with fail
  refine hK.out _ _ ?_ (fun hHeld => ?_)
  · exact (R2.out.block _ (heap_lt C1.out)).trans C1.out
  clear hK K
  try simp only [List.getElem_toArray, List.getElem_cons_succ, List.getElem_cons_zero, Act.put, List.setIfInBounds_toArray, List.set_cons_zero, List.set_cons_succ]
  refine wpAnyH_take (i := 5) (v := ?_) rfl (by kernel_rfl) (by kernel_rfl) (by kernel_rfl) (fun _ _ _ h => h) (Or.inl ⟨by rfl, ?_⟩) hHeld ?_
  rotate_left
  · intro w' hSw; go_simp; try with_reducible rfl
  simp only [List.getElem_toArray, List.getElem_cons_succ, List.getElem_cons_zero, Act.put, List.setIfInBounds_toArray, List.set_cons_zero, List.set_cons_succ]
  have C3 := Lib.hid ((R2.out.block _ (heap_lt C2.out)).trans C2.out)
  refine wpAnyH_ready (rs := [6]) (by kernel_rfl) (by simp) ?_
  refine AllReadyH.cons rfl (fun K hK => ?_) AllReadyH.nil
  rw [if_pos (by rfl)]
  refine wp_store_2 52 _ _ rfl (w.heap.size + 1) rfl rfl C3.out infoWrite2 rfl rfl ?_
  refine hK.out _ _ ?_ (fun hHeld => ?_)
  · exact (setRow_other _ _ _ _ (by omega)).trans hHeld
  clear hK K
  try simp only [List.getElem_toArray, List.getElem_cons_succ, List.getElem_cons_zero, Act.put, List.setIfInBounds_toArray, List.set_cons_zero, List.set_cons_succ]
  refine wpAnyH_done (by kernel_rfl) ?_ _
  have hall := Lib.hid (HB0.out.trans (R2.out.mono HB0.out.size))
  have hcell := Lib.hid (setRow_heap _ _ _ #[.int .i64 a.1, .slice A9 a.2.length c9] _ _ C3.out)
  clear R1
  go_wp2_with fail
  refine bodyPost_ret (v := .agg #[.int .i64 a.1, .slice A9 a.2.length c9]) ?_ rfl ⟨_, rfl, ?_, ?_⟩
  · exact results_cell_2 rfl _ _ (w.heap.size + 1) rfl hcell.out Try.underlying52 infoWrite2
  · exact owns_mono (owns_setRow OA.out (by have := heap_lt C2.out; show _ < q.heap.size; exact this) _) R0.out.size
  · exact below_setRow hall.out (by omega) _
end Go.Proofs.Ytdjoflhcagfmiaa

/-
  Copies of lists of sectors and of writes, and of a disk, in memory of the call's own.
  Conditions: at most 1,000 sectors and writes, none of more than 1,000,000 bytes.
-/
set_option linter.unusedVariables false
set_option linter.unusedSimpArgs false
set_option maxRecDepth 100000
namespace Go.Proofs.Ytdjoflhcagfmiaa
open Go.RowKit

theorem wpList_append_any {P : Program} {w : World} {ops : Array Oper} {rest : List Oper} {o : Oper} {a : Act} {Q : Exit → Act → World → Prop} (hgd : o.guard = none) (s x : Operand) (t : TypeId)
    (ho : o.op = .call { callee := .builtin .append, args := #[s, x], argTypes := #[t, t] })
    {base e size bytes : Nat} {i : TypeInfo} {z : Value} (ht : P.underlying t = some (.slice e)) (hi : P.info? e = some i) (hz : i.zero = some z) (hzs : z.cells.size = size) (hsize : i.size = size) (hsz : 0 < size) (hby : i.bytes = bytes) (hb8 : bytes ≤ 100)
    {v : Value} {n m : Nat} {ys : List Value} (hs : a.eval s = v) (hown : w.ownsRow base e size v n ys) {b c : Nat} {news : List Value} (hu : a.eval x = .slice (some ⟨b, 0, none⟩) m c) (hl : news.length = m * size)
    (hc : ∀ j u, news[j]? = some u → w.cell? ⟨b, j, none⟩ = some u) (h1 : ∀ u ∈ news, u.oneCell' = true) (h63 : n + m ≤ 100000) (hbase : base ≤ w.heap.size)
    (h : ∀ v' w', w'.ownsRow base e size v' (n + m) (ys ++ news) → w.grownBy w' v.ownBlock → wpList P ops Q rest (a.put o.dst v') w') : wpList P ops Q (o :: rest) a w := by
  refine wpList_plain hgd fun K hK => ?_
  obtain ⟨v', w', hrun, h2, h3, _⟩ := run_append_own (P := P) w base t o.type e i z size bytes ht hi hz hsize hby hzs hsz v n ys hown ⟨b, 0, none⟩ m c news hl (fun j u hj => by rw [Addr.add_lit, Nat.zero_add]; exact hc j u hj) h1 (by unfold maxLen; omega)
    (by have := Nat.mul_le_mul h63 hb8; omega) hbase
  unfold Oper.wp execOp
  simp only [ho, resolve, invoke, builtin, Sem.run_bind, Sem.run_pure, Result.andThen_ok, List.map_toArray, List.map_cons, List.map_nil, hs, hu, hrun]
  exact hK _ _ (h v' w' h2 h3)

theorem owns_block {w : World} {base e size n : Nat} {v : Value} {ys : List Value} (h : w.ownsRow base e size v n ys) {g : Nat} (hg : v.ownBlock = some g) : ∃ cur, w.heap[g]? = some (.cells cur e (0, 0)) ∧ base ≤ g := by
  rcases h.2 with ⟨rfl, _⟩ | ⟨b, cap, cur, rfl, hb, h3, _⟩
  · cases hg
  · cases hg; exact ⟨cur, h3, hb⟩
theorem owns_apart {w : World} {base e size n base' e' size' n' : Nat} {v v' : Value} {ys ys' : List Value} (hne : e ≠ e') (h : w.ownsRow base e size v n ys) (h' : w.ownsRow base' e' size' v' n' ys') : v.ownBlock = none ∨ v.ownBlock ≠ v'.ownBlock := by
  cases hb : v.ownBlock with
  | none => exact .inl rfl
  | some g =>
    refine .inr fun e1 => ?_
    obtain ⟨c1, h1, _⟩ := owns_block h hb
    obtain ⟨c2, h2, _⟩ := owns_block h' e1.symm
    rw [h1] at h2
    cases h2
    exact hne rfl

theorem secs_snoc {W w1 w2 : World} {lo : Nat} {v v' y : Value} {ss : List Bs} {s : Bs} {ys : List Value} {o : Obj} (ho : W.ownsRow lo 34 1 v ss.length ys) (hl : ys.length = ss.length)
    (he : ∀ (j : Nat) (y : Value) (s : Bs), ys[j]? = some y → ss[j]? = some s → W.ownsRow lo 5 1 y s.length (s.map u8) ∧ s.length ≤ maxLen)
    (hd : ∀ (i j : Nat) (y z : Value) (b : Nat), ys[i]? = some y → ys[j]? = some z → y.ownBlock = some b → z.ownBlock = some b → i = j)
    (hlo : lo ≤ W.heap.size) (hb1 : Below W.heap.size W w1) (hy : w1.ownsRow W.heap.size 5 1 y s.length (s.map u8)) (hs : s.length ≤ maxLen) (hmx : ss.length + 1 ≤ maxLen)
    (hown : w2.ownsRow lo 34 1 v' (ss.length + 1) (ys ++ [y])) (hgr : (w1.alloc o).grownBy w2 v.ownBlock) : SecsAt w2 lo v' (ss ++ [s]) := by
  have hv : (w1.alloc o).ownsRow lo 34 1 v ss.length ys := (owns_below ho hb1).alloc o
  have hy2 : w2.ownsRow W.heap.size 5 1 y s.length (s.map u8) := (hy.alloc o).kept hgr (owns_apart (by decide) (hy.alloc o) hv)
  refine ⟨ys ++ [y], by simpa using hown, by simp [hl], by simp; omega, fun j z t hz ht => ?_, fun i j a b g ha hb hga hgb => ?_⟩
  · rcases Nat.lt_trichotomy j ss.length with h | h | h
    · rw [List.getElem?_append_left (by omega)] at hz ht
      obtain ⟨h1, h2⟩ := he j z t hz ht
      have h3 := (owns_below h1 hb1).alloc o
      exact ⟨h3.kept hgr (owns_apart (by decide) h3 hv), h2⟩
    · subst h
      rw [List.getElem?_append_right (by omega), hl] at hz
      rw [List.getElem?_append_right (by omega)] at ht
      simp at hz ht
      subst hz ht
      exact ⟨owns_mono hy2 hlo, hs⟩
    · rw [List.getElem?_eq_none (by simp; omega)] at ht
      cases ht
  · have old : ∀ (i : Nat) (a : Value), i < ss.length → (ys ++ [y])[i]? = some a → a.ownBlock = some g → g < W.heap.size := fun i a hi ha hga => by
      rw [List.getElem?_append_left (by omega)] at ha
      obtain ⟨h1, _⟩ := he i a ss[i] ha (List.getElem?_eq_getElem hi)
      exact (h1.lt g hga).2
    have new : ∀ (i : Nat) (a : Value), ¬ i < ss.length → (ys ++ [y])[i]? = some a → a.ownBlock = some g → i = ss.length ∧ W.heap.size ≤ g := fun i a hi ha hga => by
      rw [List.getElem?_append_right (by omega), hl] at ha
      have : i = ss.length := by
        rcases Nat.eq_zero_or_pos (i - ss.length) with h | h
        · omega
        · rw [List.getElem?_eq_none (by simp; omega)] at ha; cases ha
      subst this
      simp at ha
      subst ha
      exact ⟨rfl, (hy.lt g hga).1⟩
    by_cases hi : i < ss.length
    · by_cases hj : j < ss.length
      · rw [List.getElem?_append_left (by omega)] at ha hb
        exact hd i j a b g ha hb hga hgb
      · have := old i a hi ha hga
        have := (new j b hj hb hgb).2
        omega
    · by_cases hj : j < ss.length
      · have := old j b hj hb hgb
        have := (new i a hi ha hga).2
        omega
      · rw [(new i a hi ha hga).1, (new j b hj hb hgb).1]

theorem wts_snoc {W w1 w2 : World} {lo : Nat} {v v' y : Value} {ws : List Wr} {x : Wr} {ys : List Value} {o : Obj} (ho : W.ownsRow lo 52 2 v ws.length (wcells ws ys)) (hl : ys.length = ws.length)
    (he : ∀ (j : Nat) (y : Value) (w : Wr), ys[j]? = some y → ws[j]? = some w → W.ownsRow lo 5 1 y w.2.length (w.2.map u8) ∧ w.2.length ≤ maxLen)
    (hlo : lo ≤ W.heap.size) (hb1 : Below W.heap.size W w1) (hy : w1.ownsRow W.heap.size 5 1 y x.2.length (x.2.map u8)) (hs : x.2.length ≤ maxLen) (hmx : ws.length + 1 ≤ maxLen)
    (hown : w2.ownsRow lo 52 2 v' (ws.length + 1) (wcells ws ys ++ [.int .i64 x.1, y])) (hgr : (w1.alloc o).grownBy w2 v.ownBlock) : WtsAt w2 lo v' (ws ++ [x]) := by
  have hv : (w1.alloc o).ownsRow lo 52 2 v ws.length (wcells ws ys) := (owns_below ho hb1).alloc o
  have hy2 : w2.ownsRow W.heap.size 5 1 y x.2.length (x.2.map u8) := (hy.alloc o).kept hgr (owns_apart (by decide) (hy.alloc o) hv)
  refine ⟨ys ++ [y], by rw [wcells_snoc _ _ _ _ hl]; simpa using hown, by simp [hl], by simp; omega, fun j z t hz ht => ?_⟩
  rcases Nat.lt_trichotomy j ws.length with h | h | h
  · rw [List.getElem?_append_left (by omega)] at hz ht
    obtain ⟨h1, h2⟩ := he j z t hz ht
    have h3 := (owns_below h1 hb1).alloc o
    exact ⟨h3.kept hgr (owns_apart (by decide) h3 hv), h2⟩
  · subst h
    rw [List.getElem?_append_right (by omega), hl] at hz
    rw [List.getElem?_append_right (by omega)] at ht
    simp at hz ht
    subst hz ht
    exact ⟨owns_mono hy2 hlo, hs⟩
  · rw [List.getElem?_eq_none (by simp; omega)] at ht
    cases ht

theorem own_ge {w : World} {base e size n : Nat} {v : Value} {ys : List Value} (h : w.ownsRow base e size v n ys) : ∀ k, v.ownBlock = some k → base ≤ k := fun k hk => (h.lt k hk).1

theorem made_secs (m : Nat) (h : m ≤ 1000) (w' : World) : ∃ o : Obj, (Instr.makeSlice 26 (.int .i64 0) (.int .i64 (m : Int))).run Try.prog w' = .ok (.slice (some ⟨w'.heap.size, 0, none⟩) 0 m) (w'.alloc o) ∧ (w'.alloc o).ownsRow w'.heap.size 34 1 (.slice (some ⟨w'.heap.size, 0, none⟩) 0 m) 0 [] := by
  obtain ⟨i0, hi, hz0, hz1, hz2⟩ := info_parts infoSlice
  have := run_make (P := Try.prog) w' 26 34 i0 _ Try.underlying26 hi hz0 .i64 .i64 0 m (by omega) (by omega) (by rw [hz2]; omega) (by omega)
  exact ⟨_, this, World.ownsRow_made _ _ _ (Nat.le_refl _) (by unfold maxLen; omega) (by rw [hz1]; simp [madeCells])⟩
theorem made_wts (m : Nat) (h : m ≤ 1000) (w' : World) : ∃ o : Obj, (Instr.makeSlice 27 (.int .i64 0) (.int .i64 (m : Int))).run Try.prog w' = .ok (.slice (some ⟨w'.heap.size, 0, none⟩) 0 m) (w'.alloc o) ∧ (w'.alloc o).ownsRow w'.heap.size 52 2 (.slice (some ⟨w'.heap.size, 0, none⟩) 0 m) 0 [] := by
  obtain ⟨i0, hi, hz0, hz1, hz2⟩ := info_parts infoWrite
  have := run_make (P := Try.prog) w' 27 52 i0 _ Try.underlying27 hi hz0 .i64 .i64 0 m (by omega) (by omega) (by rw [hz2]; omega) (by omega)
  exact ⟨_, this, World.ownsRow_made _ _ _ (Nat.le_refl _) (by unfold maxLen; omega) (by rw [hz1]; simp [madeCells])⟩
end Go.Proofs.Ytdjoflhcagfmiaa

/-
  Copies of lists of sectors and of writes, as the program makes them.
  Conditions: at most 1,000 sectors and writes, none of more than 1,000,000 bytes.
-/
set_option linter.unusedVariables false
set_option linter.unusedSimpArgs false
set_option maxRecDepth 100000
namespace Go.Proofs.Ytdjoflhcagfmiaa
open Go.RowKit

set_option maxHeartbeats 1000000 in
theorem copied_secs (v : Value) (ss : List Bs) (w : World) {B : Nat} (hB : B ≤ w.heap.size) (h : SecsIn w B v ss) (hn : ss.length ≤ 1000) (hs : ∀ s ∈ ss, s.length ≤ 1000000) :
    Calls Try.prog 71 #[v, .func (.func 48) #[] #[]] w fun e w' => ∃ y, e = .returned y ∧ SecsAt w' w.heap.size y ss ∧ Below w.heap.size w w' := by
  have H := Lib.hid h
  have HS := Lib.hid hs
  obtain ⟨A, cap, rfl, -, -, -, -⟩ := h
  obtain ⟨n, hnn⟩ : ∃ n, n = ss.length := ⟨_, rfl⟩
  have hmk := made_secs n (by omega)
  obtain ⟨o, hmk, hm⟩ := hmk w
  obtain ⟨i0, hi, hz0, hz1, hz2⟩ := info_parts infoSlice
  have I0 := Lib.hid hi
  have I1 := Lib.hid hz0
  have I2 := Lib.hid hz1
  have I3 := Lib.hid hz2
  have M := Lib.hid hm
  have HN := Lib.hid hn
  have HNN := Lib.hid hnn
  have hn3 : n ≤ 1000 := by omega
  have HB0 := Lib.hid (below_new w o)
  rw [← hnn] at H ⊢
  clear hi hz0 hz1 hz2 hs hm hn hnn
  go_enter Try.func71, Try.ntmps71
  go_wp2_with fail
  generalize w.alloc o = w1 at HB0 M ⊢
  clear hmk
  go_loopw [5, 13] (fun s5 s13 wr => ∃ i : Nat, i ≤ n ∧ s13 = .int .i64 i ∧ SecsAt wr w.heap.size s5 (ss.take i) ∧ Below w.heap.size w wr) (fun _ s13 _ => n - (intOf s13).toNat)
  case atStart => exact ⟨0, by omega, rfl, ⟨[], M.out, rfl, by simp, fun j y s h => by simp at h, fun i j y z b h => by simp at h⟩, HB0.out⟩
  case round =>
    obtain ⟨i, hi, rfl, ho, hb⟩ := hrel
    have HB := Lib.hid hb
    clear hb
    by_cases hlt : i < n
    · have hlt' : (i : Int) < n := by omega
      have hls : i < ss.length := by have := HNN.out; omega
      obtain ⟨b, off, u, rfl, hbb, hc, ht⟩ := (H.out.below (HB.out.mono hB)).at hls
      have HT := Lib.hid ht
      have hts : ss.take (i + 1) = ss.take i ++ [ss[i]] := by rw [List.take_add_one, List.getElem?_eq_getElem hls]; rfl
      have HTS := Lib.hid hts
      have HSI := Lib.hid (HS.out _ (List.getElem_mem hls))
      have hlen : (ss.take i).length = i := by rw [List.length_take]; omega
      obtain ⟨ys, hown, hyl, hm, he, hd⟩ := ho
      rw [hlen] at hown
      have O := Lib.hid hown
      have YL := Lib.hid hyl
      have E := Lib.hid he
      have D := Lib.hid hd
      have LL := Lib.hid hlen
      obtain ⟨A5, c5, rfl⟩ := own_slice_ hown
      clear ht hts hyl he hd hlen hown hm
      go_wp2_with (first | ((with_reducible show wpList _ _ _ (⟨some 22, _, _, _, _, _⟩ :: _) _ _); refine wpList_append_any rfl (.tmp 17) (.tmp 21) _ rfl Try.underlying26 I0.out I1.out rfl I2.out (by decide) I3.out (by decide) rfl ((owns_below O.out B2.out).alloc _) (m := 1) rfl (news := [.slice A9 ss[i].length c9]) rfl (fun j u hj => by rw [World.cell?_alloc_new]; simpa using hj) (by simp [Value.oneCell']) (by have := HN.out; omega) (by have := HB.out.size; have := B2.out.size; simp; omega) ?_; intro v4 w4 hown4 hgrow4) | (refine (clone_any _ _ _ (Nat.le_trans hB HB.out.size) HT.out (by have := HSI.out; omega)).mono ?_; rintro e w2 ⟨y, rfl, hoy, b2⟩; obtain ⟨A9, c9, rfl⟩ := own_slice_ hoy; have OY := Lib.hid hoy; have B2 := Lib.hid b2; clear hoy b2))
      have B3 : Hid (Below w.heap.size w (w2.alloc (.cells #[.slice A9 ss[i].length c9] 34))) := Lib.hid ((HB.out.trans (B2.out.mono HB.out.size)).alloc (Nat.le_trans HB.out.size B2.out.size) _)
      have S4 : Hid (SecsAt w4 w.heap.size v4 (ss.take i ++ [ss[i]])) := Lib.hid (secs_snoc (by rw [LL.out]; exact O.out) YL.out E.out D.out HB.out.size B2.out OY.out (by have := HSI.out; unfold maxLen; omega) (by rw [LL.out]; have := HN.out; unfold maxLen; omega) (by rw [LL.out]; exact hown4) hgrow4)
      have B4 := Lib.hid (B3.out.grown hgrow4 B3.out.size (own_ge O.out))
      clear hown4 hgrow4 O YL E D OY
      go_roundw
      case measure => simp [intOf]; omega
      case rel => exact ⟨i + 1, by omega, by go_num, by rw [HTS.out]; exact S4.out, B4.out⟩
    · have hlt' : ¬ ((i : Int) < n) := by omega
      have hss : ss.take i = ss := List.take_of_length_le (by have := HNN.out; omega)
      rw [hss] at ho
      have HO := Lib.hid ho
      clear ho hss
      go_wp2_with fail
      go_ret
      exact ⟨_, rfl, HO.out, HB.out⟩
theorem own_slice2_ {w : World} {base e size n : Nat} {v : Value} {ys : List Value} (h : w.ownsRow base e size v n ys) : ∃ A c, v = .slice A n c := by
  rcases h.2 with ⟨rfl, rfl⟩ | ⟨g, cap, cur, rfl, _⟩
  · exact ⟨none, 0, rfl⟩
  · exact ⟨_, _, rfl⟩

set_option maxHeartbeats 1000000 in
theorem copied_wts (v : Value) (ws : List Wr) (w : World) {B : Nat} (hB : B ≤ w.heap.size) (h : WtsIn w B v ws) (hn : ws.length ≤ 1000) (hs : ∀ s ∈ ws, s.2.length ≤ 1000000) :
    Calls Try.prog 72 #[v, .func (.func 73) #[] #[]] w fun e w' => ∃ y, e = .returned y ∧ WtsAt w' w.heap.size y ws ∧ Below w.heap.size w w' := by
  have H := Lib.hid h
  have HS := Lib.hid hs
  obtain ⟨A, cap, rfl, -, -, -, -⟩ := h
  obtain ⟨n, hnn⟩ : ∃ n, n = ws.length := ⟨_, rfl⟩
  have hmk := made_wts n (by omega)
  obtain ⟨o, hmk, hm⟩ := hmk w
  obtain ⟨i0, hi, hz0, hz1, hz2⟩ := info_parts infoWrite
  have I0 := Lib.hid hi
  have I1 := Lib.hid hz0
  have I2 := Lib.hid hz1
  have I3 := Lib.hid hz2
  have M := Lib.hid hm
  have HN := Lib.hid hn
  have HNN := Lib.hid hnn
  have hn3 : n ≤ 1000 := by omega
  have HB0 := Lib.hid (below_new w o)
  rw [← hnn] at H ⊢
  clear hi hz0 hz1 hz2 hs hm hn hnn
  go_enter Try.func72, Try.ntmps72
  go_wp2_with fail
  generalize w.alloc o = w1 at HB0 M ⊢
  clear hmk
  go_loopw [5, 13] (fun s5 s13 wr => ∃ i : Nat, i ≤ n ∧ s13 = .int .i64 i ∧ WtsAt wr w.heap.size s5 (ws.take i) ∧ Below w.heap.size w wr) (fun _ s13 _ => n - (intOf s13).toNat)
  case atStart => exact ⟨0, by omega, rfl, ⟨[], M.out, rfl, by simp, fun j y s h => by simp at h⟩, HB0.out⟩
  case round =>
    obtain ⟨i, hi, rfl, ho, hb⟩ := hrel
    have HB := Lib.hid hb
    clear hb
    by_cases hlt : i < n
    · have hlt' : (i : Int) < n := by omega
      have hls : i < ws.length := by have := HNN.out; omega
      obtain ⟨b, off, u, rfl, hbb, hc0, hc, ht⟩ := (H.out.below (HB.out.mono hB)).at hls
      have HT := Lib.hid ht
      obtain ⟨A3, c3, rfl, -, -, -, -⟩ := id ht
      have hts : ws.take (i + 1) = ws.take i ++ [ws[i]] := by rw [List.take_add_one, List.getElem?_eq_getElem hls]; rfl
      have HTS := Lib.hid hts
      have HSI := Lib.hid (HS.out _ (List.getElem_mem hls))
      have hlen : (ws.take i).length = i := by rw [List.length_take]; omega
      obtain ⟨ys, hown, hyl, hm, he⟩ := ho
      rw [hlen] at hown
      have O := Lib.hid hown
      have YL := Lib.hid hyl
      have E := Lib.hid he
      have LL := Lib.hid hlen
      obtain ⟨A5, c5, rfl⟩ := own_slice2_ hown
      clear ht hts hyl he hlen hown hm
      go_wp2_with (first | ((with_reducible show wpList _ _ _ (⟨some 22, _, _, _, _, _⟩ :: _) _ _); refine wpList_append_any rfl (.tmp 17) (.tmp 21) _ rfl Try.underlying27 I0.out I1.out rfl I2.out (by decide) I3.out (by decide) rfl ((owns_below (O.out.alloc _) B2.out).alloc _) (m := 1) rfl (news := [.int .i64 ws[i].1, .slice A9 ws[i].2.length c9]) rfl (fun j u hj => by rw [World.cell?_alloc_new]; simpa using hj) (by simp [Value.oneCell']) (by have := HN.out; omega) (by have := HB.out.size; have := B2.out.size; simp at this ⊢; omega) ?_; intro v4 w4 hown4 hgrow4) | (refine (twinWrite_any _ ws[i] _ (Nat.le_trans hB (HB.out.alloc HB.out.size _).size) ⟨_, rfl, HT.out.below ((Below.refl _ _).alloc (Nat.le_trans hB HB.out.size) _)⟩ (by have := HSI.out; omega)).mono ?_; rintro e w2 ⟨y, rfl, hoy, b2⟩; obtain ⟨A9, c9, rfl⟩ := own_slice_ hoy; have OY := Lib.hid hoy; have B2 := Lib.hid b2; clear hoy b2))
      have B2' := Lib.hid ((below_new wr (.cells #[.int .i64 ws[i].1, .slice A3 ws[i].2.length c3] 52)).trans (B2.out.mono (by simp)))
      have OY' := Lib.hid (owns_mono OY.out (show wr.heap.size ≤ _ by simp))
      have B3 : Hid (Below w.heap.size w (w2.alloc (.cells #[.int .i64 ws[i].1, .slice A9 ws[i].2.length c9] 52))) := Lib.hid ((HB.out.trans (B2'.out.mono HB.out.size)).alloc (Nat.le_trans HB.out.size B2'.out.size) _)
      have S4 : Hid (WtsAt w4 w.heap.size v4 (ws.take i ++ [ws[i]])) := Lib.hid (wts_snoc (by rw [LL.out]; exact O.out) YL.out E.out HB.out.size B2'.out OY'.out (by have := HSI.out; unfold maxLen; omega) (by rw [LL.out]; have := HN.out; unfold maxLen; omega) (by rw [LL.out]; exact hown4) hgrow4)
      have B4 := Lib.hid (B3.out.grown hgrow4 B3.out.size (own_ge O.out))
      clear hown4 hgrow4 O YL E OY
      go_roundw
      case measure => simp [intOf]; omega
      case rel => exact ⟨i + 1, by omega, by go_num, by rw [HTS.out]; exact S4.out, B4.out⟩
    · have hlt' : ¬ ((i : Int) < n) := by omega
      have hss : ws.take i = ws := List.take_of_length_le (by have := HNN.out; omega)
      rw [hss] at ho
      have HO := Lib.hid ho
      clear ho hss
      go_wp2_with fail
      go_ret
      exact ⟨_, rfl, HO.out, HB.out⟩
end Go.Proofs.Ytdjoflhcagfmiaa

/-
  A disk's copy, and whether two disks are the same, as the program makes and asks it.
  Conditions: the copy: at most 1,000 sectors and writes, none of more than 1,000,000 bytes.
-/
set_option linter.unusedVariables false
set_option linter.unusedSimpArgs false
set_option maxRecDepth 100000
namespace Go.Proofs.Ytdjoflhcagfmiaa
open Go.RowKit

theorem secs_slice {W : World} {lo : Nat} {v : Value} {ss : List Bs} (h : SecsAt W lo v ss) : ∃ A c, v = .slice A ss.length c := by
  obtain ⟨ys, ho, _⟩ := h
  exact own_slice2_ ho
theorem wts_slice {W : World} {lo : Nat} {v : Value} {ws : List Wr} (h : WtsAt W lo v ws) : ∃ A c, v = .slice A ws.length c := by
  obtain ⟨ys, ho, _⟩ := h
  exact own_slice2_ ho
theorem secs_setRow {W : World} {lo : Nat} {v : Value} {ss : List Bs} (h : SecsAt W lo v ss) {g : Nat} (hg : g < lo) (cs : Array Value) : SecsAt (W.setRow g cs) lo v ss := by
  obtain ⟨ys, ho, hl, hm, he, hd⟩ := h
  exact ⟨ys, owns_setRow ho hg cs, hl, hm, fun j y s h1 h2 => ⟨owns_setRow (he j y s h1 h2).1 hg cs, (he j y s h1 h2).2⟩, hd⟩
theorem wts_setRow {W : World} {lo : Nat} {v : Value} {ws : List Wr} (h : WtsAt W lo v ws) {g : Nat} (hg : g < lo) (cs : Array Value) : WtsAt (W.setRow g cs) lo v ws := by
  obtain ⟨ys, ho, hl, hm, he⟩ := h
  exact ⟨ys, owns_setRow ho hg cs, hl, hm, fun j y s h1 h2 => ⟨owns_setRow (he j y s h1 h2).1 hg cs, (he j y s h1 h2).2⟩⟩

/-- A disk is not great. -/
structure Fits (ss : List Bs) (ws : List Wr) : Prop where
  n : ss.length ≤ 1000
  m : ws.length ≤ 1000
  s : ∀ s ∈ ss, s.length ≤ 1000000
  w : ∀ x ∈ ws, x.2.length ≤ 1000000
theorem May.fits {ss : List Bs} {ws : List Wr} (h : May ss ws) : Fits ss ws :=
  ⟨by rw [h.n]; omega, by have := h.m; omega, fun x hx => by rw [h.s x hx]; omega, fun x hx => by rw [(h.w x hx).2.2]; omega⟩

set_option maxHeartbeats 1000000 in
theorem twin_any (d : Value) (ss : List Bs) (ws : List Wr) (w : World) {B : Nat} (hB : B ≤ w.heap.size) (h : DiskIn w B d ss ws) (hf : Fits ss ws) :
    Calls Try.prog 47 #[d] w fun e w' => ∃ d', e = .returned d' ∧ DiskAt w' w.heap.size d' ss ws ∧ Below w.heap.size w w' := by
  obtain ⟨v1, v2, rfl, h1, h2⟩ := h
  have H1 := Lib.hid h1
  have H2 := Lib.hid h2
  have HF := Lib.hid hf
  clear h1 h2 hf
  have HB0 : Hid (Below w.heap.size w ((w.alloc (.cells #[v1, v2] 29)).alloc (.cells #[.slice none 0 0, .slice none 0 0] 29))) := Lib.hid ((below_new w _).alloc (by simp) _)
  have hc1 : ((w.alloc (.cells #[v1, v2] 29)).alloc (.cells #[.slice none 0 0, .slice none 0 0] 29)).heap[w.heap.size]? = some (.cells #[v1, v2] 29 (0, 0)) := by
    rw [heap_alloc_lt _ _ (by rw [heap_alloc_size]; omega)]; exact heap_alloc_self _ _
  have hc2 : ((w.alloc (.cells #[v1, v2] 29)).alloc (.cells #[.slice none 0 0, .slice none 0 0] 29)).heap[w.heap.size + 1]? = some (.cells #[.slice none 0 0, .slice none 0 0] 29 (0, 0)) := by
    have := heap_alloc_self (w.alloc (.cells #[v1, v2] 29)) (.cells #[.slice none 0 0, .slice none 0 0] 29)
    rwa [heap_alloc_size] at this
  go_enter Try.func47, Try.ntmps47
  go_wp2_with fail
  generalize (w.alloc (.cells #[v1, v2] 29)).alloc (.cells #[.slice none 0 0, .slice none 0 0] 29) = q at HB0 hc1 hc2 ⊢
  have C1 := Lib.hid hc1
  have C2 := Lib.hid hc2
  have R0 : Hid (Below w.heap.size w q.drew) := Lib.hid (HB0.out.drew)
  have R1 : Hid (Below q.heap.size q q.drew) := Lib.hid (Below.refl _ q).drew
  clear hc1 hc2
  refine wp_region_held_drew (S := fun v => v.heap[w.heap.size]? = some (.cells #[v1, v2] 29 (0, 0))) (by kernel_rfl) ?_ (fun hHeld => ?_)
  · exact C1.out
  refine wpAnyH_take (i := 0) (v := ?_) rfl (by kernel_rfl) (by kernel_rfl) (by kernel_rfl) (fun _ _ _ h => h) (Or.inl ⟨by rfl, ?_⟩) hHeld ?_
  rotate_left
  · intro w' hSw; go_simp; try with_reducible rfl
  simp only [List.getElem_toArray, List.getElem_cons_succ, List.getElem_cons_zero, Act.put, List.setIfInBounds_toArray, List.set_cons_zero, List.set_cons_succ]
  refine wpAnyH_take (i := 1) (v := ?_) rfl (by kernel_rfl) (by kernel_rfl) (by kernel_rfl) (fun _ _ _ h => h) (Or.inl ⟨by rfl, ?_⟩) hHeld ?_
  rotate_left
  · intro w' hSw; obtain ⟨c0, c1⟩ := cell2_of hSw; go_simp; try with_reducible rfl
  simp only [List.getElem_toArray, List.getElem_cons_succ, List.getElem_cons_zero, Act.put, List.setIfInBounds_toArray, List.set_cons_zero, List.set_cons_succ]
  refine wpAnyH_take (i := 3) (v := ?_) rfl (by kernel_rfl) (by kernel_rfl) (by kernel_rfl) (fun _ _ _ h => h) (Or.inl ⟨by rfl, ?_⟩) hHeld ?_
  rotate_left
  · intro w' hSw; go_simp; try with_reducible rfl
  simp only [List.getElem_toArray, List.getElem_cons_succ, List.getElem_cons_zero, Act.put, List.setIfInBounds_toArray, List.set_cons_zero, List.set_cons_succ]
  refine wpAnyH_take (i := 4) (v := ?_) rfl (by kernel_rfl) (by kernel_rfl) (by kernel_rfl) (fun _ _ _ h => h) (Or.inl ⟨by rfl, ?_⟩) hHeld ?_
  rotate_left
  · intro w' hSw; obtain ⟨c0, c1⟩ := cell2_of hSw; go_simp; try with_reducible rfl
  simp only [List.getElem_toArray, List.getElem_cons_succ, List.getElem_cons_zero, Act.put, List.setIfInBounds_toArray, List.set_cons_zero, List.set_cons_succ]
  refine wpAnyH_ready (rs := [2]) (by kernel_rfl) (by simp) ?_
  refine AllReadyH.cons rfl (fun K hK => ?_) AllReadyH.nil
  go_simp
  refine (copied_secs _ ss q.drew (B := B) (Nat.le_trans hB R0.out.size) (H1.out.below (R0.out.mono hB)) HF.out.n HF.out.s).mono ?_
  rintro e wA ⟨y1, rfl, hoA, bA⟩
  have OA := Lib.hid hoA
  have R2 := Lib.hid (R1.out.trans (bA.mono R1.out.size))
  have R3 := Lib.hid (R0.out.trans (bA.mono R0.out.size))
  obtain ⟨A9, c9, rfl⟩ := secs_slice hoA
  clear hoA bA
  try go_wp2_with fail
  refine hK.out _ _ ?_ (fun hHeld => ?_)
  · exact (R2.out.block _ (heap_lt C1.out)).trans C1.out
  clear hK K
  try simp only [List.getElem_toArray, List.getElem_cons_succ, List.getElem_cons_zero, Act.put, List.setIfInBounds_toArray, List.set_cons_zero, List.set_cons_succ]
  refine wpAnyH_ready (rs := [5]) (by kernel_rfl) (by simp) ?_
  refine AllReadyH.cons rfl (fun K hK => ?_) AllReadyH.nil
  go_simp
  refine (copied_wts _ ws wA (B := B) (Nat.le_trans hB R3.out.size) (H2.out.below (R3.out.mono hB)) HF.out.m HF.out.w).mono ?_
  rintro e wB ⟨y2, rfl, hoB, bB⟩
  have OB := Lib.hid hoB
  have R4 := Lib.hid (R2.out.trans (bB.mono R2.out.size))
  have OA2 := Lib.hid (OA.out.below bB)
  obtain ⟨A8, c8, rfl⟩ := wts_slice hoB
  clear hoB bB
  try go_wp2_with fail
  refine hK.out _ _ ?_ (fun hHeld => ?_)
  · exact (R4.out.block _ (heap_lt C1.out)).trans C1.out
  clear hK K
  try simp only [List.getElem_toArray, List.getElem_cons_succ, List.getElem_cons_zero, Act.put, List.setIfInBounds_toArray, List.set_cons_zero, List.set_cons_succ]
  refine wpAnyH_take (i := 6) (v := ?_) rfl (by kernel_rfl) (by kernel_rfl) (by kernel_rfl) (fun _ _ _ h => h) (Or.inl ⟨by rfl, ?_⟩) hHeld ?_
  rotate_left
  · intro w' hSw; go_simp; try with_reducible rfl
  simp only [List.getElem_toArray, List.getElem_cons_succ, List.getElem_cons_zero, Act.put, List.setIfInBounds_toArray, List.set_cons_zero, List.set_cons_succ]
  have C3 := Lib.hid ((R4.out.block _ (heap_lt C2.out)).trans C2.out)
  refine wpAnyH_ready (rs := [7]) (by kernel_rfl) (by simp) ?_
  refine AllReadyH.cons rfl (fun K hK => ?_) AllReadyH.nil
  rw [if_pos (by rfl)]
  refine wp_store_2 29 _ _ rfl (w.heap.size + 1) rfl rfl C3.out infoDisk2 rfl rfl ?_
  refine hK.out _ _ ?_ (fun hHeld => ?_)
  · exact (setRow_other _ _ _ _ (by omega)).trans hHeld
  clear hK K
  try simp only [List.getElem_toArray, List.getElem_cons_succ, List.getElem_cons_zero, Act.put, List.setIfInBounds_toArray, List.set_cons_zero, List.set_cons_succ]
  refine wpAnyH_done (by kernel_rfl) ?_ _
  have hall := Lib.hid (HB0.out.trans (R4.out.mono HB0.out.size))
  have hcell := Lib.hid (setRow_heap _ _ _ #[.slice A9 ss.length c9, .slice A8 ws.length c8] _ _ C3.out)
  have S1 := Lib.hid (secs_setRow OA2.out (g := w.heap.size + 1) (by have := heap_lt C2.out; exact this) #[.slice A9 ss.length c9, .slice A8 ws.length c8])
  have S2 := Lib.hid (wts_setRow OB.out (g := w.heap.size + 1) (by have := heap_lt C2.out; have := R2.out.size; omega) #[.slice A9 ss.length c9, .slice A8 ws.length c8])
  clear R1
  go_wp2_with fail
  refine bodyPost_ret (v := .agg #[.slice A9 ss.length c9, .slice A8 ws.length c8]) ?_ rfl ⟨_, rfl, ⟨_, _, rfl, S1.out.mono R0.out.size, S2.out.mono R3.out.size⟩, ?_⟩
  · exact results_cell_2 rfl _ _ (w.heap.size + 1) rfl hcell.out Try.underlying29 infoDisk2
  · exact below_setRow hall.out (by omega) _
end Go.Proofs.Ytdjoflhcagfmiaa

/-
  A piece laid on a sector of the call's own.
  Conditions: the piece is no longer than the sector.
-/
set_option linter.unusedVariables false
set_option linter.unusedSimpArgs false
set_option maxRecDepth 100000
namespace Go.Proofs.Ytdjoflhcagfmiaa
open Go.RowKit

theorem infoByte1 : (Try.prog.info? 5).map (·.size) = some 1 := by kernel_rfl
theorem grownBy_setRow (w : World) (g : Nat) (cs : Array Value) : w.grownBy (w.setRow g cs) (some g) :=
  ⟨rfl, rfl, rfl, by simp [World.setRow], fun b _ hb => setRow_other _ _ _ _ (fun e => hb (by rw [e]))⟩
theorem wpList_copy_lay {P : Program} {w : World} {ops : Array Oper} {rest : List Oper} {o : Oper} {a : Act} {Q : Exit → Act → World → Prop} (hgd : o.guard = none) (d s : Operand) (dT sT : TypeId)
    (ho : o.op = .call { callee := .builtin .copy, args := #[d, s], argTypes := #[dT, sT] }) (elem : TypeId) (hu : P.underlying dT = some (.slice elem)) (hsz : (P.info? elem).map (·.size) = some 1)
    {B : Nat} {p : Bs} {u : Value} (g dCap : Nat) (hd : a.eval d = .slice (some ⟨g, 0, none⟩) p.length dCap) (hs : a.eval s = u) (hu2 : Txt w B u p)
    (cur : List Value) (t : TypeId) (hg : w.heap[g]? = some (.cells cur.toArray t (0, 0))) (hfit : p.length ≤ cur.length)
    (h : ∀ w', w'.heap[g]? = some (.cells (p.map u8 ++ cur.drop p.length).toArray t (0, 0)) → w.grownBy w' (some g) → wpList P ops Q rest (a.put o.dst (goInt p.length)) w') :
    wpList P ops Q (o :: rest) a w := by
  have H := hu2
  obtain ⟨A, cap, rfl, h1, h2, hn, h3⟩ := hu2
  by_cases h0 : p.length = 0
  · obtain rfl : p = [] := List.eq_nil_of_length_eq_zero h0
    refine wpList_copy_nothing hgd d s dT sT ho elem hu hsz _ A _ _ _ cap hd hs (by simp) ?_
    exact h w (by simpa using hg) (World.grownBy.refl w _)
  · obtain ⟨b, off, rfl, hb, hc⟩ := h3 (by omega)
    refine wpList_copy_own hgd d s dT sT ho elem hu hsz g 0 _ _ ⟨b, off, none⟩ _ cap hd hs cur.toArray t hg (p.map u8) (by simp) H.cells (by simpa using hfit) (u8s_oneCell p) ?_
    have := h (w.setRow g (p.map u8 ++ cur.drop p.length).toArray) (setRow_heap _ _ _ _ _ _ hg) (grownBy_setRow _ _ _)
    simpa using this

set_option maxHeartbeats 1000000 in
theorem lay_any (g cap lo : Nat) (s p : Bs) (pv : Value) (w : World) {B : Nat} (ho : w.ownsRow lo 5 1 (.slice (some ⟨g, 0, none⟩) s.length cap) s.length (s.map u8)) (hp : Txt w B pv p) (hl : p.length ≤ s.length) :
    Calls Try.prog 51 #[.slice (some ⟨g, 0, none⟩) s.length cap, pv] w fun e w' => (∃ v, e = .returned v) ∧ w'.ownsRow lo 5 1 (.slice (some ⟨g, 0, none⟩) s.length cap) s.length ((lay s p).map u8) ∧ w.grownBy w' (some g) := by
  have H := Lib.hid hp
  obtain ⟨A, c, rfl, -, -, -, -⟩ := hp
  rcases ho.2 with ⟨h, _⟩ | ⟨g', cap', cur, e, hlo, hgb, hle, hcm, hcs, htk⟩
  · cases h
  · cases e
    have h1 : (p.length : Int) ≤ cap := by omega
    have h0 : (0 : Int) ≤ p.length := by omega
    have G := Lib.hid hgb
    have K := Lib.hid (show lo ≤ g ∧ s.length ≤ cap ∧ cap ≤ maxLen ∧ cur.size = cap * 1 ∧ cur.toList.take (s.length * 1) = s.map u8 from ⟨hlo, hle, hcm, hcs, htk⟩)
    have HL := Lib.hid hl
    clear ho hlo hgb hle hcm hcs htk hl
    go_enter Try.func51, Try.ntmps51
    go_wp2_with (refine wpList_copy_lay (o := ⟨some 12, _, _, _, _, _⟩) rfl (.tmp 10) (.tmp 11) _ _ rfl 5 Try.underlying34 infoByte1 g _ rfl rfl H.out cur.toList 5 G.out (by have := K.out.2.2.2.1; have := K.out.2.1; have := HL.out; simp; omega) ?_; intro w1 hw1 hg1)
    go_end0
    refine ⟨⟨_, rfl⟩, ⟨by simp [lay]; have := HL.out; omega, .inr ⟨g, cap, _, rfl, K.out.1, hw1, K.out.2.1, K.out.2.2.1, ?_, ?_⟩⟩, hg1⟩
    · have := K.out; have := HL.out; simp; omega
    · have h1 := K.out.2.2.2.2
      have h2 := HL.out
      rw [Nat.mul_one] at h1 ⊢
      show (List.map u8 p ++ cur.toList.drop p.length).take s.length = _
      rw [List.take_append, List.length_map, List.take_of_length_le (by simp; omega), List.take_drop, show p.length + (s.length - p.length) = s.length from by omega, h1]
      simp [lay]
end Go.Proofs.Ytdjoflhcagfmiaa

/-
  A disk and a list of numbers that come in as arguments read as such.
  Conditions: none.
-/
set_option linter.unusedVariables false
set_option linter.unusedSimpArgs false
set_option maxRecDepth 100000
namespace Go.Proofs.Ytdjoflhcagfmiaa
open Go.ChangeShapes Go.WideShapes Go.ChangeAt Go.RowKit Go.Joins Go.Deep

theorem nums_of_arg {H : Type} {enc : TypeId × Value → H} {W : World} {base : Nat} {v : Value} {d : DataW H} {p : List MemPlace} (hval : Value.okWide Try.prog W .any base 64 v) (h : DataW.Trod enc Try.prog W 0 (fun _ => true) true 64 v d p) :
    ∃ ks, NumsIn W W.heap.size v ks := by
  obtain ⟨a, len, cap, rfl⟩ := okWide_slice Try.underlying64 hval
  obtain ⟨fuel, hf⟩ := h
  rcases open_ints Try.underlying64 Try.underlying3 (by kernel_rfl) hf with ⟨hcs, _⟩ | ⟨x, l, c, zs, hcs, _, hl, hm, hz, _, hcell, hwz⟩
  · simp [Value.cells] at hcs
    obtain ⟨rfl, rfl, rfl⟩ := hcs
    exact ⟨[], none, 0, rfl, Nat.le_refl _, Nat.zero_le _, fun _ => rfl, fun h => absurd h (by simp)⟩
  · simp [Value.cells] at hcs
    obtain ⟨rfl, rfl, rfl⟩ := hcs
    simp only [if_true] at hz
    have hlen : (zs.take len).length = len := by simp; omega
    refine ⟨zs.take len, some x, cap, by rw [hlen], by rw [hlen]; exact hl, hm, fun e => (by cases e), fun hp => ?_⟩
    rw [hlen] at hp
    obtain ⟨b, off, spot⟩ := x
    have hspot : spot = none := by simpa [Addr.add] using World.cell?_spot (hcell 0 (by omega))
    subst hspot
    refine ⟨b, off, rfl, by simpa [Addr.add] using cell_lt (hcell 0 (by omega)), fun j hj => ?_⟩
    rw [hlen] at hj
    have hcj := hcell j (by omega)
    rw [Addr.add_lit] at hcj
    rw [hcj, List.getElem_take]
    have e : zs[j]? = some zs[j] := List.getElem?_eq_getElem (by omega)
    first
      | simp [List.getD, e]
      | simp [e]

/-- A slice of bytes, by its cells, reads as a text. -/
theorem txt_of_trod {H : Type} {enc : TypeId × Value → H} {W : World} {n : Nat} {v : Value} {y : DataW H × List MemPlace} (h : DataW.trod enc Try.prog W 0 (fun _ => true) true n 34 [v] = some y) :
    ∃ xs, Txt W W.heap.size v xs := by
  rcases open_ints Try.underlying34 Try.underlying5 (by kernel_rfl) h with ⟨hcs, _⟩ | ⟨x, l, c, zs, hcs, _, hl, hm, hz, _, hcell, hwz⟩
  · simp at hcs
    obtain rfl := hcs
    exact ⟨[], Txt.nil_ _ _⟩
  · simp at hcs
    obtain rfl := hcs
    simp only [if_true] at hz
    have hlen : ((zs.take l).map fun n => UInt8.ofNat n.toNat).length = l := by simp; omega
    refine ⟨(zs.take l).map fun n => UInt8.ofNat n.toNat, some x, c, by rw [hlen], by rw [hlen]; exact hl, hm, fun e => (by cases e), fun hp => ?_⟩
    rw [hlen] at hp
    obtain ⟨b, off, spot⟩ := x
    have hspot : spot = none := by simpa [Addr.add] using World.cell?_spot (hcell 0 (by omega))
    subst hspot
    refine ⟨b, off, rfl, by simpa [Addr.add] using cell_lt (hcell 0 (by omega)), fun j hj => ?_⟩
    rw [hlen] at hj
    have hcj := hcell j (by omega)
    rw [Addr.add_lit] at hcj
    rw [hcj]
    have hb := range_u8 hwz j
    have e : zs.getD j 0 = zs[j]'(by omega) := by simp [List.getD, List.getElem?_eq_getElem (show j < zs.length by omega)]
    rw [List.getD_eq_getElem?_getD] at e ⊢
    rw [e] at hb ⊢
    simp only [List.getElem_map, List.getElem_take, u8, UInt8.toNat_ofNat']
    congr 2
    omega

theorem addr_plain {W : World} {a : Addr} {j : Nat} (hj : j = 0) {v : Value} (h : W.cell? (a.add j) = some v) : ∃ b off, a = ⟨b, off, none⟩ := by
  subst hj
  obtain ⟨b, off, spot⟩ := a
  have hspot : spot = none := World.cell?_spot h
  subst hspot
  exact ⟨b, off, rfl⟩

theorem secs_of_trod {H : Type} {enc : TypeId × Value → H} {W : World} {n : Nat} {v : Value} {y : DataW H × List MemPlace} (h : DataW.trod enc Try.prog W 0 (fun _ => true) true n 26 [v] = some y) :
    ∃ ss, SecsIn W W.heap.size v ss := by
  rcases open_slice Try.underlying26 h with ⟨hcs, _⟩ | ⟨a, len, cap, m, n', D, Pl, hcs, _, hl, hm, hmm, _, hi⟩
  · simp at hcs
    subst hcs
    exact ⟨[], SecsIn.nil_⟩
  · simp at hcs
    subst hcs
    simp only [if_true] at hmm
    have hC : Try.prog.cellsOf 34 = 1 := by kernel_rfl
    have each : ∀ i, ∃ xs : Bs, i < m → ∃ u, W.cell? (a.add i) = some u ∧ Txt W W.heap.size u xs := fun i => by
      by_cases him : i < m
      · obtain ⟨cs', hc, ht⟩ := hi i him
        rw [hC, Nat.mul_one] at hc
        obtain ⟨_, hcl, hat⟩ := World.cells?_some hc
        match cs', hcl with
        | [u], _ =>
          obtain ⟨xs, hx⟩ := txt_of_trod ht
          have h0 := hat 0 (by omega)
          rw [Addr.add_add, Nat.add_zero] at h0
          exact ⟨xs, fun _ => ⟨u, h0, hx⟩⟩
      · exact ⟨[], fun h => absurd h him⟩
    obtain ⟨f, hf⟩ := Classical.axiomOfChoice each
    have hlen : ((List.range len).map f).length = len := by simp
    refine ⟨(List.range len).map f, some a, cap, by rw [hlen], by rw [hlen]; exact hl, hm, fun e => (by cases e), fun hp => ?_⟩
    rw [hlen] at hp
    obtain ⟨u0, h0, _⟩ := hf 0 (by omega)
    obtain ⟨b, off, rfl⟩ := addr_plain (by omega) h0
    refine ⟨b, off, rfl, by simpa [Addr.add] using cell_lt h0, fun j hj => ?_⟩
    rw [hlen] at hj
    obtain ⟨u, hu, ht⟩ := hf j (by omega)
    rw [Addr.add_lit] at hu
    exact ⟨u, hu, by simpa using ht⟩

theorem wts_of_trod {H : Type} {enc : TypeId × Value → H} {W : World} {n : Nat} {v : Value} {y : DataW H × List MemPlace} (h : DataW.trod enc Try.prog W 0 (fun _ => true) true n 27 [v] = some y) :
    ∃ ws, WtsIn W W.heap.size v ws := by
  rcases open_slice Try.underlying27 h with ⟨hcs, _⟩ | ⟨a, len, cap, m, n', D, Pl, hcs, _, hl, hm, hmm, _, hi⟩
  · simp at hcs
    subst hcs
    exact ⟨[], WtsIn.nil_⟩
  · simp at hcs
    subst hcs
    simp only [if_true] at hmm
    have hC : Try.prog.cellsOf 52 = 2 := by kernel_rfl
    have hC3 : Try.prog.cellsOf 3 = 1 := by kernel_rfl
    have hC30 : Try.prog.cellsOf 34 = 1 := by kernel_rfl
    have each : ∀ i, ∃ x : Wr, i < m → ∃ u, W.cell? (a.add (i * 2)) = some (.int .i64 x.1) ∧ W.cell? (a.add (i * 2 + 1)) = some u ∧ Txt W W.heap.size u x.2 := fun i => by
      by_cases him : i < m
      · obtain ⟨cs', hc, ht⟩ := hi i him
        rw [hC] at hc
        obtain ⟨_, hcl, hat⟩ := World.cells?_some hc
        match cs', hcl with
        | [c0, c1], _ =>
          obtain ⟨y0, y1, k, _, _, h0, h1⟩ := trod_struct2 Try.underlying52 ht
          simp only [hC3, hC30, List.drop_zero, List.drop_succ_cons, List.take_succ_cons, List.take_zero] at h0 h1
          obtain ⟨z, e0, _, _⟩ := DataW.trod_int Try.underlying3 h0
          obtain ⟨xs, hx⟩ := txt_of_trod h1
          have g0 := hat 0 (by omega)
          have g1 := hat 1 (by omega)
          rw [Addr.add_add, Nat.add_zero] at g0
          rw [Addr.add_add] at g1
          cases e0
          exact ⟨(z, xs), fun _ => ⟨c1, g0, g1, hx⟩⟩
      · exact ⟨(0, []), fun h => absurd h him⟩
    obtain ⟨f, hf⟩ := Classical.axiomOfChoice each
    have hlen : ((List.range len).map f).length = len := by simp
    refine ⟨(List.range len).map f, some a, cap, by rw [hlen], by rw [hlen]; exact hl, hm, fun e => (by cases e), fun hp => ?_⟩
    rw [hlen] at hp
    obtain ⟨u0, h0, _⟩ := hf 0 (by omega)
    obtain ⟨b, off, rfl⟩ := addr_plain (by omega) h0
    refine ⟨b, off, rfl, by simpa [Addr.add] using cell_lt h0, fun j hj => ?_⟩
    rw [hlen] at hj
    obtain ⟨u, hu0, hu1, ht⟩ := hf j (by omega)
    rw [Addr.add_lit] at hu0 hu1
    refine ⟨u, by simpa using hu0, ?_, by simpa using ht⟩
    rw [← Nat.add_assoc] at hu1
    exact hu1

theorem disk_of_arg {H : Type} {enc : TypeId × Value → H} {W : World} {base : Nat} {v : Value} {d : DataW H} {p : List MemPlace} (hval : Value.okWide Try.prog W .any base 29 v) (h : DataW.Trod enc Try.prog W 0 (fun _ => true) true 29 v d p) :
    ∃ ss ws, DiskIn W W.heap.size v ss ws := by
  obtain ⟨v0, v1, y0, y1, n, rfl, _, _, h0, h1⟩ := open_agg2 Try.underlying29 (by kernel_rfl) (by kernel_rfl) hval h
  obtain ⟨ss, hs⟩ := secs_of_trod h0
  obtain ⟨ws, hw⟩ := wts_of_trod h1
  exact ⟨ss, ws, v0, v1, rfl, hs, hw⟩
end Go.Proofs.Ytdjoflhcagfmiaa

/-
  A disk that comes in as an argument: its lists, and how long they are at most, by what is read before the call.
  Conditions: none.
-/
set_option linter.unusedVariables false
set_option linter.unusedSimpArgs false
set_option maxRecDepth 100000
namespace Go.Proofs.Ytdjoflhcagfmiaa
open Go.ChangeShapes Go.WideShapes Go.ChangeAt Go.RowKit Go.Joins Go.Deep

theorem weightsAll_mem_ {H : Type} {P : Program} {e : TypeId} : ∀ {xs : List (DataW H)} {d : DataW H} (hd : d ∈ xs) (n : Nat) (hn : n ∈ d.weights P e), n ∈ DataW.weightsAll P e xs
  | [], d, hd, n, hn => by cases hd
  | x :: xs, d, hd, n, hn => by
    simp only [DataW.weightsAll, List.mem_append]
    rcases List.mem_cons.1 hd with rfl | h
    · exact Or.inl hn
    · exact Or.inr (weightsAll_mem_ h n hn)
theorem bytes8 : Try.prog.bytesOf 5 = 1 := by kernel_rfl
theorem bytesSl : Try.prog.bytesOf 34 = 24 := by kernel_rfl
theorem bytesWr : Try.prog.bytesOf 52 = 32 := by kernel_rfl

theorem txt_of_sized {H : Type} {enc : TypeId × Value → H} {W : World} {n K : Nat} {v : Value} {y : DataW H × List MemPlace} (h : DataW.trod enc Try.prog W 0 (fun _ => true) true n 34 [v] = some y) (hK : ∀ k ∈ y.1.weights Try.prog 34, k ≤ K) :
    ∃ xs, Txt W W.heap.size v xs ∧ xs.length ≤ K := by
  obtain ⟨xs, hx⟩ := txt_of_trod h
  refine ⟨xs, hx, ?_⟩
  obtain ⟨A, cap, hv, h1, h2, hn, h3⟩ := hx
  rcases open_ints Try.underlying34 Try.underlying5 (by kernel_rfl) h with ⟨hcs, _⟩ | ⟨x, l, c, zs, hcs, _, hl, hm, hz, hy, hcell, hwz⟩
  · simp at hcs
    rw [hcs] at hv
    injection hv with e1 e2 e3
    omega
  · simp at hcs
    rw [hcs] at hv
    injection hv with e1 e2 e3
    simp only [if_true] at hz
    have hw := hK ((List.length (lits (H := H) .u8 (zs.take l)) + List.length (lits (H := H) .u8 (zs.drop l))) * Try.prog.bytesOf 5) (by
      rw [hy]
      simp [DataW.weights, Try.underlying34])
    rw [bytes8] at hw
    simp only [lits, List.length_map, List.length_take, List.length_drop, Nat.mul_one] at hw
    omega

theorem secs_of_sized {H : Type} {enc : TypeId × Value → H} {W : World} {n K : Nat} {v : Value} {y : DataW H × List MemPlace} (h : DataW.trod enc Try.prog W 0 (fun _ => true) true n 26 [v] = some y) (hK : ∀ k ∈ y.1.weights Try.prog 26, k ≤ K) :
    ∃ ss, SecsIn W W.heap.size v ss ∧ ss.length ≤ K ∧ ∀ s ∈ ss, s.length ≤ K := by
  rcases open_slice Try.underlying26 h with ⟨hcs, _⟩ | ⟨a, len, cap, m, n', D, Pl, hcs, _, hl, hm, hmm, hy, hi⟩
  · simp at hcs
    subst hcs
    exact ⟨[], SecsIn.nil_, by simp, fun s hs => by simp at hs⟩
  · simp at hcs
    subst hcs
    simp only [if_true] at hmm
    have hC : Try.prog.cellsOf 34 = 1 := by kernel_rfl
    have each : ∀ i, ∃ xs : Bs, i < len → (∃ u, W.cell? (a.add i) = some u ∧ Txt W W.heap.size u xs) ∧ xs.length ≤ K := fun i => by
      by_cases him : i < len
      · obtain ⟨cs', hc, ht⟩ := hi i (by omega)
        rw [hC, Nat.mul_one] at hc
        obtain ⟨_, hcl, hat⟩ := World.cells?_some hc
        match cs', hcl with
        | [u], _ =>
          obtain ⟨xs, hx, hxl⟩ := txt_of_sized ht (K := K) (fun k hk => hK k (by
            rw [hy]
            simp only [DataW.weights, Try.underlying26, List.mem_cons, List.mem_append]
            exact .inr (.inl (weightsAll_mem_ (List.mem_map.2 ⟨i, List.mem_range.2 him, rfl⟩) k hk))))
          have h0 := hat 0 (by omega)
          rw [Addr.add_add, Nat.add_zero] at h0
          exact ⟨xs, fun _ => ⟨⟨u, h0, hx⟩, hxl⟩⟩
      · exact ⟨[], fun h => absurd h him⟩
    obtain ⟨f, hf⟩ := Classical.axiomOfChoice each
    have hlen : ((List.range len).map f).length = len := by simp
    refine ⟨(List.range len).map f, ⟨some a, cap, by rw [hlen], by rw [hlen]; exact hl, hm, fun e => (by cases e), fun hp => ?_⟩, ?_, fun s hs => ?_⟩
    · rw [hlen] at hp
      obtain ⟨⟨u0, h0, _⟩, _⟩ := hf 0 (by omega)
      obtain ⟨b, off, rfl⟩ := addr_plain (by omega) h0
      refine ⟨b, off, rfl, by simpa [Addr.add] using cell_lt h0, fun j hj => ?_⟩
      rw [hlen] at hj
      obtain ⟨⟨u, hu, ht⟩, _⟩ := hf j (by omega)
      rw [Addr.add_lit] at hu
      exact ⟨u, hu, by simpa using ht⟩
    · have hw := hK ((((List.range len).map D).length + ((List.range (m - len)).map fun j => D (len + j)).length) * Try.prog.bytesOf 34) (by
        rw [hy]
        simp [DataW.weights, Try.underlying26])
      rw [bytesSl] at hw
      simp only [List.length_map, List.length_range] at hw
      rw [hlen]
      omega
    · obtain ⟨i, hi, rfl⟩ := List.mem_map.1 hs
      exact (hf i (List.mem_range.1 hi)).2

def atFit (x : Wr) : Prop := -9223372036854775808 ≤ x.1 ∧ x.1 ≤ 9223372036854775807
theorem wts_of_sized {H : Type} {enc : TypeId × Value → H} {W : World} {n K : Nat} {v : Value} {y : DataW H × List MemPlace} (h : DataW.trod enc Try.prog W 0 (fun _ => true) true n 27 [v] = some y) (hK : ∀ k ∈ y.1.weights Try.prog 27, k ≤ K) :
    ∃ ws, WtsIn W W.heap.size v ws ∧ ws.length ≤ K ∧ ∀ x ∈ ws, x.2.length ≤ K ∧ atFit x := by
  rcases open_slice Try.underlying27 h with ⟨hcs, _⟩ | ⟨a, len, cap, m, n', D, Pl, hcs, _, hl, hm, hmm, hy, hi⟩
  · simp at hcs
    subst hcs
    exact ⟨[], WtsIn.nil_, by simp, fun s hs => by simp at hs⟩
  · simp at hcs
    subst hcs
    simp only [if_true] at hmm
    have hC : Try.prog.cellsOf 52 = 2 := by kernel_rfl
    have hC3 : Try.prog.cellsOf 3 = 1 := by kernel_rfl
    have hC30 : Try.prog.cellsOf 34 = 1 := by kernel_rfl
    have each : ∀ i, ∃ x : Wr, i < len → (∃ u, W.cell? (a.add (i * 2)) = some (.int .i64 x.1) ∧ W.cell? (a.add (i * 2 + 1)) = some u ∧ Txt W W.heap.size u x.2) ∧ x.2.length ≤ K ∧ atFit x := fun i => by
      by_cases him : i < len
      · obtain ⟨cs', hc, ht⟩ := hi i (by omega)
        rw [hC] at hc
        obtain ⟨_, hcl, hat⟩ := World.cells?_some hc
        match cs', hcl with
        | [c0, c1], _ =>
          obtain ⟨y0, y1, k, hyy, _, h0, h1⟩ := trod_struct2 Try.underlying52 ht
          simp only [hC3, hC30, List.drop_zero, List.drop_succ_cons, List.take_succ_cons, List.take_zero] at h0 h1
          obtain ⟨z, e0, _, hwf⟩ := DataW.trod_int Try.underlying3 h0
          have hD : D i = .agg [y0.1, y1.1] := congrArg Prod.fst hyy
          obtain ⟨xs, hx, hxl⟩ := txt_of_sized h1 (K := K) (fun k hk => hK k (by
            rw [hy]
            simp only [DataW.weights, Try.underlying27, List.mem_cons, List.mem_append]
            refine .inr (.inl (weightsAll_mem_ (List.mem_map.2 ⟨i, List.mem_range.2 him, rfl⟩) k ?_))
            rw [hD]
            simp only [DataW.weights, Try.underlying52, List.map_cons, List.map_nil, DataW.weightsEach, List.mem_append]
            exact .inr (.inl hk)))
          have g0 := hat 0 (by omega)
          have g1 := hat 1 (by omega)
          rw [Addr.add_add, Nat.add_zero] at g0
          rw [Addr.add_add] at g1
          cases e0
          exact ⟨(z, xs), fun _ => ⟨⟨c1, g0, g1, hx⟩, hxl, by simpa [atFit] using range_i64 (zs := [z]) (fun n hn => by rw [List.mem_singleton.1 hn]; exact hwf) 0⟩⟩
      · exact ⟨(0, []), fun h => absurd h him⟩
    obtain ⟨f, hf⟩ := Classical.axiomOfChoice each
    have hlen : ((List.range len).map f).length = len := by simp
    refine ⟨(List.range len).map f, ⟨some a, cap, by rw [hlen], by rw [hlen]; exact hl, hm, fun e => (by cases e), fun hp => ?_⟩, ?_, fun s hs => ?_⟩
    · rw [hlen] at hp
      obtain ⟨⟨u0, h0, _⟩, _⟩ := hf 0 (by omega)
      obtain ⟨b, off, rfl⟩ := addr_plain (by omega) h0
      refine ⟨b, off, rfl, by simpa [Addr.add] using cell_lt h0, fun j hj => ?_⟩
      rw [hlen] at hj
      obtain ⟨⟨u, hu0, hu1, ht⟩, _⟩ := hf j (by omega)
      rw [Addr.add_lit] at hu0 hu1
      refine ⟨u, by simpa using hu0, ?_, by simpa using ht⟩
      rw [← Nat.add_assoc] at hu1
      exact hu1
    · have hw := hK ((((List.range len).map D).length + ((List.range (m - len)).map fun j => D (len + j)).length) * Try.prog.bytesOf 52) (by
        rw [hy]
        simp [DataW.weights, Try.underlying27])
      rw [bytesWr] at hw
      simp only [List.length_map, List.length_range] at hw
      rw [hlen]
      omega
    · obtain ⟨i, hi, rfl⟩ := List.mem_map.1 hs
      exact (hf i (List.mem_range.1 hi)).2

/-- How long a disk's lists are at most, as they are read before the call. -/
structure Reach47 (ss : List Bs) (ws : List Wr) : Prop where
  n : ss.length ≤ 140737488351232
  m : ws.length ≤ 140737488351232
  s : ∀ s ∈ ss, s.length ≤ 140737488351232
  w : ∀ x ∈ ws, x.2.length ≤ 140737488351232 ∧ atFit x
theorem disk_of_sized {H : Type} {enc : TypeId × Value → H} {W : World} {base : Nat} {v : Value} {d : DataW H} {p : List MemPlace} (hval : Value.okWide Try.prog W .any base 29 v) (h : DataW.Trod enc Try.prog W 0 (fun _ => true) true 29 v d p) (hK : ∀ k ∈ d.weights Try.prog 29, k ≤ reachBytes) :
    ∃ ss ws, DiskIn W W.heap.size v ss ws ∧ Reach47 ss ws := by
  obtain ⟨v0, v1, y0, y1, n, rfl, rfl, _, h0, h1⟩ := open_agg2 Try.underlying29 (by kernel_rfl) (by kernel_rfl) hval h
  have hk : ∀ k, k ∈ y0.1.weights Try.prog 26 ∨ k ∈ y1.1.weights Try.prog 27 → k ≤ 140737488351232 := fun k hk => hK k (by
    simp only [DataW.weights, Try.underlying29, List.map_cons, List.map_nil, DataW.weightsEach, List.mem_append]
    rcases hk with h | h
    · exact .inl h
    · exact .inr (.inl h))
  obtain ⟨ss, hs, hs1, hs2⟩ := secs_of_sized h0 (fun k h => hk k (.inl h))
  obtain ⟨ws, hw, hw1, hw2⟩ := wts_of_sized h1 (fun k h => hk k (.inr h))
  exact ⟨ss, ws, ⟨v0, v1, rfl, hs, hw⟩, ⟨hs1, hw1, hs2, hw2⟩⟩
end Go.Proofs.Ytdjoflhcagfmiaa

/-
  A box that holds a disk of the call's own.
  Conditions: none.
-/
set_option linter.unusedVariables false
set_option linter.unusedSimpArgs false
set_option maxRecDepth 100000
namespace Go.Proofs.Ytdjoflhcagfmiaa
open Go.RowKit

/-- A box that holds a disk of the call's own. -/
def BoxD (W : World) (p lo : Nat) (ss : List Bs) (ws : List Wr) : Prop := ∃ x1 x2, W.heap[p]? = some (.cells #[x1, x2] 29 (0, 0)) ∧ SecsAt W lo x1 ss ∧ WtsAt W lo x2 ws
theorem BoxD.below {W W' : World} {p lo : Nat} {ss : List Bs} {ws : List Wr} (h : BoxD W p lo ss ws) (b : Below W.heap.size W W') : BoxD W' p lo ss ws := by
  obtain ⟨x1, x2, h1, h2, h3⟩ := h
  exact ⟨x1, x2, (b.block _ (heap_lt h1)).trans h1, h2.below b, h3.below b⟩
end Go.Proofs.Ytdjoflhcagfmiaa
