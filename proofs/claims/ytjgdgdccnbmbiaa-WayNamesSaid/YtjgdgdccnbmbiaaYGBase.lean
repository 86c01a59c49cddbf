/-
  What every stage's texts share: the heap, blocks of cells, rows of the call's own, boxes. No type of the program is named.
  Conditions: none.
-/
import Derived.Test.YtjgdgdccnbmbiaaProg
import Derived.Test.YtjgdgdccnbmbiaaChecked
import Derived.Deep.MidRow
import Derived.Laws.Rows
import Derived.Laws.Tables
import Derived.Below
import Derived.Deep.WholeRow
import Derived.Laws.CopyOwn
import Derived.ProofKit
import Derived.OpenShut
import Derived.ShutString
import Derived.ChangeOld
import Derived.Laws.BytesString
import Derived.Laws.IdiomStrings
import Derived.WalkKit
import Derived.Deep.RegionHeld3
import Derived.Lib.Hide
import Derived.OwnWalk
import Derived.StillTailTactics
import Derived.Great.BuildSlice
import Derived.Lib.SmallJoins
import Derived.Deep.Slices
import Derived.Deep.Fields
import Derived.ChangeSame
import Derived.BigRegion
import Derived.Deep.CutRange
import Derived.Test.YtjgdgdccnbmbiaaRows
set_option linter.unusedVariables false
set_option linter.unusedSimpArgs false
set_option maxRecDepth 100000
namespace Go.Proofs.Ytjgdgdccnbmbiaa
open Go.RowKit

theorem heap_alloc_self (w : World) (o : Obj) : (w.alloc o).heap[w.heap.size]? = some o := by
  show (w.heap.push o)[w.heap.size]? = some o
  simp
theorem heap_alloc_size (w : World) (o : Obj) : (w.alloc o).heap.size = w.heap.size + 1 := by
  show (w.heap.push o).size = _
  simp
theorem heap_alloc_lt (w : World) (o : Obj) {b : Nat} (h : b < w.heap.size) : (w.alloc o).heap[b]? = w.heap[b]? := by
  show (w.heap.push o)[b]? = w.heap[b]?
  rw [Array.getElem?_push, if_neg (by omega)]
theorem heap_lt {w : World} {b : Nat} {o : Obj} (h : w.heap[b]? = some o) : b < w.heap.size := (Array.getElem?_eq_some_iff.1 h).1
theorem below_new (w : World) (o : Obj) : Below w.heap.size w (w.alloc o) := (Below.refl _ w).alloc (Nat.le_refl _) o
theorem cell_lt {W : World} {p : Addr} {v : Value} (h : W.cell? p = some v) : p.block < W.heap.size := by
  rcases Nat.lt_or_ge p.block W.heap.size with hlt | hge
  · exact hlt
  · simp [World.cell?, Array.getElem?_eq_none hge] at h
theorem owns_below {w w' : World} {base e size n : Nat} {v : Value} {ys : List Value} (h : w.ownsRow base e size v n ys) (hb : Below w.heap.size w w') : w'.ownsRow base e size v n ys := by
  refine ⟨h.1, ?_⟩
  rcases h.2 with h2 | ⟨g, cap, cur, h1, h2, h3, h4⟩
  · exact .inl h2
  · exact .inr ⟨g, cap, cur, h1, h2, (hb.block g (Array.getElem?_eq_some_iff.1 h3).1).trans h3, h4⟩
theorem owns_mono {W : World} {lo lo' e size n : Nat} {v : Value} {ys : List Value} (h : W.ownsRow lo e size v n ys) (hl : lo' ≤ lo) : W.ownsRow lo' e size v n ys := by
  refine ⟨h.1, ?_⟩
  rcases h.2 with h2 | ⟨g, cap, cur, h1, h2, h3, h4⟩
  · exact .inl h2
  · exact .inr ⟨g, cap, cur, h1, Nat.le_trans hl h2, h3, h4⟩
theorem owns_block {w : World} {base e size n : Nat} {v : Value} {ys : List Value} (h : w.ownsRow base e size v n ys) {g : Nat} (hg : v.ownBlock = some g) : ∃ cur, w.heap[g]? = some (.cells cur e (0, 0)) ∧ base ≤ g := by
  rcases h.2 with ⟨rfl, _⟩ | ⟨b, cap, cur, rfl, hb, h3, _⟩
  · cases hg
  · cases hg; exact ⟨cur, h3, hb⟩
theorem own_ge {w : World} {base e size n : Nat} {v : Value} {ys : List Value} (h : w.ownsRow base e size v n ys) : ∀ k, v.ownBlock = some k → base ≤ k := fun k hk => (h.lt k hk).1
theorem cell2_of {w : World} {b : Nat} {v1 v2 : Value} {t : TypeId} {fr : Nat × Nat} (h : w.heap[b]? = some (.cells #[v1, v2] t fr)) : w.cell? ⟨b, 0, none⟩ = some v1 ∧ w.cell? ⟨b, 1, none⟩ = some v2 :=
  ⟨by rw [cell_of_row _ _ _ _ _ _ h]; rfl, by rw [cell_of_row _ _ _ _ _ _ h]; rfl⟩
theorem frozen2_of {w : World} {b : Nat} {c : Array Value} {t : TypeId} (h : w.heap[b]? = some (.cells c t (0, 0))) (j : Nat) : w.frozen? ⟨b, j, none⟩ = false := by simp [World.frozen?, h]
theorem heap_other {W W' : World} {g b : Nat} {cur : Array Value} {c : Array Value} {t e : TypeId} {fr fr' : Nat × Nat} (hne : t ≠ e) (h : W.heap[b]? = some (.cells c t fr)) (hg : W.heap[g]? = some (.cells cur e fr')) (hgr : W.grownBy W' (some g)) : W'.heap[b]? = some (.cells c t fr) :=
  (hgr.block b (heap_lt h) (fun e1 => by
    obtain rfl : b = g := by simpa using e1
    rw [h] at hg
    cases hg
    exact hne rfl)).trans h
theorem heap_set2 {W : World} {b : Nat} {c0 c1 : Value} {t : TypeId} (h : W.heap[b]? = some (.cells #[c0, c1] t (0, 0))) (x y : Value) : ((W.setCell ⟨b, 0, none⟩ x).setCell ⟨b, 1, none⟩ y).heap[b]? = some (.cells #[x, y] t (0, 0)) := by
  simp only [World.setCell, Array.getElem?_modify, if_true, h, Option.map_some]
  rfl
theorem grown_set (W : World) (b j : Nat) (x : Value) : W.grownBy (W.setCell ⟨b, j, none⟩ x) (some b) := ⟨rfl, rfl, rfl, by simp [World.setCell], fun i _ hi => Below.heap_setCell W ⟨b, j, none⟩ x i (fun e => hi (by rw [e]))⟩
theorem heap_setFar (W : World) (b j i : Nat) (x : Value) (h : i ≠ b) : (W.setCell ⟨b, j, none⟩ x).heap[i]? = W.heap[i]? := Below.heap_setCell W ⟨b, j, none⟩ x i h
theorem below_set {B b : Nat} {w W : World} (h : Below B w W) (hb : B ≤ b) (j : Nat) (x : Value) : Below B w (W.setCell ⟨b, j, none⟩ x) := h.setCell (p := ⟨b, j, none⟩) hb x
theorem below_set2 {B b : Nat} {w W : World} (h : Below B w W) (hb : B ≤ b) (x y : Value) : Below B w ((W.setCell ⟨b, 0, none⟩ x).setCell ⟨b, 1, none⟩ y) := below_set (below_set h hb 0 x) hb 1 y
/-- Two boxes more: what lies in them, and below. -/
theorem two_boxes (w : World) (o1 o2 : Obj) : ((w.alloc o1).alloc o2).heap[w.heap.size]? = some o1 ∧ ((w.alloc o1).alloc o2).heap[w.heap.size + 1]? = some o2 ∧ Below w.heap.size w ((w.alloc o1).alloc o2) := by
  refine ⟨?_, ?_, (below_new w _).alloc (by simp) _⟩
  · rw [heap_alloc_lt _ _ (by rw [heap_alloc_size]; omega)]; exact heap_alloc_self _ _
  · have := heap_alloc_self (w.alloc o1) o2
    rwa [heap_alloc_size] at this
theorem boxes3 (w : World) (a b c : Obj) : ∃ q, q = ((w.alloc a).alloc b).alloc c ∧ q.heap[w.heap.size]? = some a ∧ q.heap[w.heap.size + 1]? = some b ∧ q.heap[w.heap.size + 1 + 1]? = some c ∧ q.heap.size = w.heap.size + 3 ∧ Below w.heap.size w q := by
  refine ⟨_, rfl, ?_, ?_, ?_, by simp, (((Below.refl _ w).alloc (Nat.le_refl _) _).alloc (by simp) _).alloc (by simp; omega) _⟩
  · rw [heap_alloc_lt _ _ (by simp; omega), heap_alloc_lt _ _ (by simp)]; exact heap_alloc_self _ _
  · rw [heap_alloc_lt _ _ (by simp)]
    have := heap_alloc_self (w.alloc a) b
    simpa using this
  · have := heap_alloc_self ((w.alloc a).alloc b) c
    simpa using this
theorem own_sliceN {w : World} {base e size n : Nat} {v : Value} {ys : List Value} (h : w.ownsRow base e size v n ys) : ∃ A c, v = .slice A n c := by
  rcases h.2 with ⟨h1, h2⟩ | ⟨gg, cap, cur, h1, _⟩
  · exact ⟨none, 0, by rw [h1, h2]⟩
  · exact ⟨_, _, h1⟩
/-- The results of a function whose results are a struct of two cells in memory, and a slot. -/
theorem results_2_tmp {P : Program} {fn : Func} {p u : Tmp} {ty : TypeId} (h : fn.results = #[.cell p ty, .tmp u]) (tmps : Array Value) (w : World) (g : Nat) {v1 v2 : Value} {t : TypeId} {fr : Nat × Nat} (hp : tmps.getD p undef = .pointer (some ⟨g, 0, none⟩)) (hb : w.heap[g]? = some (.cells #[v1, v2] t fr))
    {fs : Array Field} (hu : P.underlying ty = some (.struct fs)) (hi : (P.info? ty).map (·.size) = some 2) (x : Value) (hx : tmps.getD u undef = x) : (results fn tmps).run P w = .ok (.tuple #[.agg #[v1, v2], x]) w := by
  have hp' : tmps[p]?.getD undef = .pointer (some ⟨g, 0, none⟩) := by simpa using hp
  rw [results_cell_tmp h, hp, hx]
  simp [asAddr, run_loadVar_row w g t ty #[v1, v2] fr _ hb hu rfl (by simpa using hi)]
theorem own_ : ownKnob Try.prog.godebug = none := by kernel_rfl
theorem grownBy_setRow (w : World) (g : Nat) (cs : Array Value) : w.grownBy (w.setRow g cs) (some g) :=
  ⟨rfl, rfl, rfl, by simp [World.setRow], fun b _ hb => setRow_other _ _ _ _ (fun e => hb (by rw [e]))⟩
theorem grown_trans {a b c : World} {r : Option Nat} (h : a.grownBy b r) (k : b.grownBy c r) : a.grownBy c r :=
  ⟨k.os.trans h.os, k.tape.trans h.tape, k.output.trans h.output, Nat.le_trans h.size k.size, fun i hi hne => (k.block i (Nat.lt_of_lt_of_le hi h.size) hne).trans (h.block i hi hne)⟩
theorem cell3_of {w : World} {b : Nat} {v1 v2 v3 : Value} {t : TypeId} {fr : Nat × Nat} (h : w.heap[b]? = some (.cells #[v1, v2, v3] t fr)) : w.cell? ⟨b, 0, none⟩ = some v1 ∧ w.cell? ⟨b, 1, none⟩ = some v2 ∧ w.cell? ⟨b, 2, none⟩ = some v3 :=
  ⟨cell_of_row _ _ _ _ _ _ h, cell_of_row _ _ _ _ _ _ h, cell_of_row _ _ _ _ _ _ h⟩
end Go.Proofs.Ytjgdgdccnbmbiaa

/-
  Lists of anything, as slices read them: in memory that came in, in memory of the call's own; how that lasts; and how an argument comes to be read so.
  Conditions: none.
-/
set_option linter.unusedVariables false
set_option linter.unusedSimpArgs false
set_option maxRecDepth 100000
namespace Go.Proofs.Ytjgdgdccnbmbiaa
open Go.ChangeShapes Go.WideShapes Go.ChangeAt Go.RowKit Go.Joins Go.Deep

/-- How an element's cells read: c tells each cell. -/
abbrev El (α : Type) := World → Nat → (Nat → Option Value) → α → Prop
structure Elem {α : Type} (R : El α) : Prop where
  below : ∀ {W W' : World} {B : Nat} {c : Nat → Option Value} {x : α}, R W B c x → Below B W W' → R W' B c x
  more : ∀ {W : World} {B B' : Nat} {c : Nat → Option Value} {x : α}, R W B c x → B ≤ B' → R W B' c x
/-- The slice v reads as the list xs, each element sz cells. -/
def ListIn {α : Type} (sz : Nat) (R : El α) (W : World) (B : Nat) (v : Value) (xs : List α) : Prop :=
  ∃ (A : Option Addr) (cap : Nat), v = .slice A xs.length cap ∧ xs.length ≤ cap ∧ cap ≤ maxLen ∧ (A = none → cap = 0) ∧
    (0 < xs.length → ∃ b off, A = some ⟨b, off, none⟩ ∧ b < B ∧ ∀ j (h : j < xs.length), R W B (fun k => W.cell? ⟨b, off + j * sz + k, none⟩) xs[j])
section
variable {α : Type} {sz : Nat} {R : El α} {W W' : World} {B : Nat} {v : Value} {xs : List α}
theorem ListIn.nil_ : ListIn sz R W B (.slice none 0 0) ([] : List α) := ⟨none, 0, rfl, Nat.le_refl _, Nat.zero_le _, fun _ => rfl, fun h => absurd h (by simp)⟩
theorem ListIn.below (e : Elem R) (h : ListIn sz R W B v xs) (hb : Below B W W') : ListIn sz R W' B v xs := by
  obtain ⟨A, cap, h0, h1, h2, hn, h3⟩ := h
  refine ⟨A, cap, h0, h1, h2, hn, fun hp => ?_⟩
  obtain ⟨b, off, ha, hlt, hc⟩ := h3 hp
  refine ⟨b, off, ha, hlt, fun j hj => ?_⟩
  have hf : (fun k => W'.cell? ⟨b, off + j * sz + k, none⟩) = fun k => W.cell? ⟨b, off + j * sz + k, none⟩ := funext fun k => hb.cell (p := ⟨b, _, none⟩) hlt
  rw [hf]
  exact e.below (hc j hj) hb
theorem ListIn.more (e : Elem R) {B' : Nat} (h : ListIn sz R W B v xs) (hB : B ≤ B') : ListIn sz R W B' v xs := by
  obtain ⟨A, cap, h0, h1, h2, hn, h3⟩ := h
  refine ⟨A, cap, h0, h1, h2, hn, fun hp => ?_⟩
  obtain ⟨b, off, ha, hlt, hc⟩ := h3 hp
  exact ⟨b, off, ha, by omega, fun j hj => e.more (hc j hj) hB⟩
theorem ListIn.slice (h : ListIn sz R W B v xs) : ∃ A c, v = .slice A xs.length c ∧ xs.length ≤ c ∧ c ≤ maxLen := by
  obtain ⟨A, cap, h0, h1, h2, _⟩ := h
  exact ⟨A, cap, h0, h1, h2⟩
/-- One element. -/
theorem ListIn.at {A : Option Addr} {n cap : Nat} (h : ListIn sz R W B (.slice A n cap) xs) {j : Nat} (hj : j < xs.length) :
    ∃ b off, A = some ⟨b, off, none⟩ ∧ b < B ∧ R W B (fun k => W.cell? ⟨b, off + j * sz + k, none⟩) xs[j] := by
  obtain ⟨A', cap', e, _, _, _, h3⟩ := h
  cases e
  obtain ⟨b, off, ha, hb, hc⟩ := h3 (by omega)
  exact ⟨b, off, ha, hb, hc j hj⟩
end

/-- A list of the call's own: its elements' cells, one behind the other. -/
def ListOwn {α : Type} (T : TypeId) (sz : Nat) (R : El α) (W : World) (lo : Nat) (v : Value) (xs : List α) : Prop :=
  ∃ yss : List (List Value), W.ownsRow lo T sz v xs.length yss.flatten ∧ yss.length = xs.length ∧ xs.length ≤ maxLen ∧ (∀ ys ∈ yss, ys.length = sz) ∧
    ∀ (j : Nat) (ys : List Value) (x : α), yss[j]? = some ys → xs[j]? = some x → R W W.heap.size (fun k => ys[k]?) x
theorem flat_at {sz : Nat} : ∀ (yss : List (List Value)) (j k : Nat) (ys : List Value), (∀ ys ∈ yss, ys.length = sz) → yss[j]? = some ys → k < sz → yss.flatten[j * sz + k]? = ys[k]?
  | [], j, k, ys, _, h, _ => by simp at h
  | y :: yss, 0, k, ys, hl, h, hk => by
    cases h
    rw [List.flatten_cons, Nat.zero_mul, Nat.zero_add, List.getElem?_append_left (by rw [hl _ (by simp)]; exact hk)]
  | y :: yss, j + 1, k, ys, hl, h, hk => by
    have hy := hl y (by simp)
    rw [List.flatten_cons, List.getElem?_append_right (by rw [hy, Nat.succ_mul]; omega), hy, show (j + 1) * sz + k - sz = j * sz + k from by rw [Nat.succ_mul]; omega]
    exact flat_at yss j k ys (fun z hz => hl z (by simp [hz])) (by simpa using h) hk
theorem flat_length {sz : Nat} : ∀ (yss : List (List Value)), (∀ ys ∈ yss, ys.length = sz) → yss.flatten.length = yss.length * sz
  | [], _ => by simp
  | y :: yss, h => by
    rw [List.flatten_cons, List.length_append, h y (by simp), flat_length yss (fun z hz => h z (by simp [hz])), List.length_cons, Nat.succ_mul]; omega
section
variable {α : Type} {T : TypeId} {sz : Nat} {R : El α} {W W' : World} {lo : Nat} {v : Value} {xs : List α}
theorem ListOwn.nil_ : ListOwn T sz R W lo (.slice none 0 0) ([] : List α) := ⟨[], World.ownsRow_nil _ _ _ _, rfl, by simp, by simp, fun j ys x h => by simp at h⟩
theorem ListOwn.below (e : Elem R) (h : ListOwn T sz R W lo v xs) (hb : Below W.heap.size W W') : ListOwn T sz R W' lo v xs := by
  obtain ⟨yss, ho, hl, hm, hs, ht⟩ := h
  exact ⟨yss, owns_below ho hb, hl, hm, hs, fun j ys x h1 h2 => e.more (e.below (ht j ys x h1 h2) hb) hb.size⟩
theorem ListOwn.mono {lo' : Nat} (h : ListOwn T sz R W lo v xs) (hl : lo' ≤ lo) : ListOwn T sz R W lo' v xs := by
  obtain ⟨yss, ho, h⟩ := h
  exact ⟨yss, owns_mono ho hl, h⟩
theorem ListOwn.in_ (hR : ∀ (c c' : Nat → Option Value) (x : α), (∀ k, k < sz → c k = c' k) → R W W.heap.size c x → R W W.heap.size c' x) (h : ListOwn T sz R W lo v xs) : ListIn sz R W W.heap.size v xs := by
  obtain ⟨yss, ho, hl, hm, hs, ht⟩ := h
  have ho' := ho
  rcases ho.2 with ⟨rfl, h0⟩ | ⟨g, cap, cur, rfl, _, hgb, hcap, hmx, _⟩
  · exact ⟨none, 0, by rw [h0], by omega, Nat.zero_le _, fun _ => rfl, fun h => absurd h (by omega)⟩
  · refine ⟨_, cap, rfl, hcap, hmx, (fun e => by cases e), fun _ => ⟨g, 0, rfl, (Array.getElem?_eq_some_iff.1 hgb).1, fun j hj => ?_⟩⟩
    have hx : xs[j]? = some xs[j] := List.getElem?_eq_getElem hj
    have hy : yss[j]? = some (yss[j]'(by omega)) := List.getElem?_eq_getElem (by omega)
    refine hR _ _ _ (fun k hk => ?_) (ht j _ _ hy hx)
    have hjk : j * sz + k < xs.length * sz := by
      have := Nat.mul_le_mul_right sz (show j + 1 ≤ xs.length from hj)
      rw [Nat.succ_mul] at this
      omega
    rw [Nat.zero_add, ho'.cellAt (j * sz + k) hjk, flat_at yss j k _ hs hy hk]
theorem ListOwn.snoc {w1 w2 : World} {v2 : Value} {ys : List Value} {x : α} {o : Obj} {yss : List (List Value)} (e : Elem R) (hT : ∀ {W W' : World} {c : Nat → Option Value} {y : α} {g : Nat}, lo ≤ g → R W W.heap.size c y → W.grownBy W' (some g) → (∃ cur, W.heap[g]? = some (.cells cur T (0, 0))) → R W' W'.heap.size c y)
    (ho : W.ownsRow lo T sz v xs.length yss.flatten) (hl : yss.length = xs.length) (hs : ∀ ys ∈ yss, ys.length = sz) (hy : ys.length = sz) (hm : xs.length + 1 ≤ maxLen)
    (ht : ∀ (j : Nat) (ys : List Value) (x : α), yss[j]? = some ys → xs[j]? = some x → R W W.heap.size (fun k => ys[k]?) x) (hb : Below W.heap.size W w1) (hx : R w1 w1.heap.size (fun k => ys[k]?) x)
    (hown : w2.ownsRow lo T sz v2 (xs.length + 1) (yss.flatten ++ ys)) (hgr : (w1.alloc o).grownBy w2 v.ownBlock) : ListOwn T sz R w2 lo v2 (xs ++ [x]) := by
  have hba : Below W.heap.size W (w1.alloc o) := hb.alloc hb.size o
  have hxa : R (w1.alloc o) (w1.alloc o).heap.size (fun k => ys[k]?) x := e.more (e.below hx (below_new w1 o)) (below_new w1 o).size
  have keep : ∀ (c : Nat → Option Value) (y : α), R (w1.alloc o) (w1.alloc o).heap.size c y → R w2 w2.heap.size c y := fun c y h => by
    cases hv : v.ownBlock with
    | none =>
      rw [hv] at hgr
      have hbb : Below (w1.alloc o).heap.size (w1.alloc o) w2 := (Below.refl _ _).grown hgr (Nat.le_refl _) (fun k hk => by cases hk)
      exact e.more (e.below h hbb) hbb.size
    | some g =>
      rw [hv] at hgr
      obtain ⟨c1, h1, _⟩ := owns_block ho hv
      exact hT (own_ge ho g hv) h hgr ⟨c1, (hba.block g (Array.getElem?_eq_some_iff.1 h1).1).trans h1⟩
  refine ⟨yss ++ [ys], by rw [List.length_append, List.length_singleton, List.flatten_append, List.flatten_singleton]; exact hown, by simp [hl], by simpa using hm, fun z hz => ?_, fun j z y hz hy' => ?_⟩
  · rcases List.mem_append.1 hz with h | h
    · exact hs z h
    · rw [List.mem_singleton.1 h]; exact hy
  · rcases Nat.lt_or_ge j xs.length with h | h
    · rw [List.getElem?_append_left (by omega)] at hz
      rw [List.getElem?_append_left h] at hy'
      exact keep _ _ (e.more (e.below (ht j z y hz hy') hba) hba.size)
    · have hj1 : j = xs.length := by
        have := (List.getElem?_eq_some_iff.1 hy').1
        rw [List.length_append, List.length_singleton] at this
        omega
      subst hj1
      rw [List.getElem?_append_right (by omega), hl, Nat.sub_self] at hz
      rw [List.getElem?_append_right (by omega), Nat.sub_self] at hy'
      cases hz
      cases hy'
      exact keep _ _ hxa
end
end Go.Proofs.Ytjgdgdccnbmbiaa

/-
  Sections and joins, as values and slices read them.
  Conditions: none.
-/
set_option linter.unusedVariables false
set_option linter.unusedSimpArgs false
set_option maxRecDepth 100000
namespace Go.Proofs.Ytjgdgdccnbmbiaa
open Go.ChangeShapes Go.WideShapes Go.ChangeAt Go.RowKit Go.Joins Go.Deep

abbrev Jn := Int × Int
/-- A section: its number, its point, its ends. -/
abbrev Sec := Int × Int × List Jn
def JoinR : El Jn := fun W B c x => c 0 = some (.int .i64 x.1) ∧ c 1 = some (.int .i64 x.2)
theorem joinR : Elem JoinR := ⟨fun h _ => h, fun h _ => h⟩
theorem joinR_cells {W : World} {B : Nat} (c c' : Nat → Option Value) (x : Jn) (h : ∀ k, k < 2 → c k = c' k) (hx : JoinR W B c x) : JoinR W B c' x :=
  ⟨(h 0 (by omega)).symm.trans hx.1, (h 1 (by omega)).symm.trans hx.2⟩
abbrev JoinsIn (W : World) (B : Nat) (v : Value) (l : List Jn) : Prop := ListIn 2 JoinR W B v l
def SecR : El Sec := fun W B c s => c 0 = some (.int .i64 s.1) ∧ c 1 = some (.int .i64 s.2.1) ∧ ∃ u, c 2 = some u ∧ JoinsIn W B u s.2.2
theorem secR_ : Elem SecR := ⟨fun ⟨h0, h1, u, h2, h3⟩ hb => ⟨h0, h1, u, h2, h3.below joinR hb⟩, fun ⟨h0, h1, u, h2, h3⟩ hb => ⟨h0, h1, u, h2, h3.more joinR hb⟩⟩
abbrev SectsIn (W : World) (B : Nat) (v : Value) (l : List Sec) : Prop := ListIn 3 SecR W B v l
/-- A section by value. -/
def SecV (W : World) (B : Nat) (v : Value) (s : Sec) : Prop := ∃ u, v = .agg #[.int .i64 s.1, .int .i64 s.2.1, u] ∧ JoinsIn W B u s.2.2
theorem SecV.below {W W' : World} {B : Nat} {v : Value} {s : Sec} (h : SecV W B v s) (hb : Below B W W') : SecV W' B v s := by
  obtain ⟨u, rfl, hu⟩ := h
  exact ⟨u, rfl, hu.below joinR hb⟩
theorem SecV.more {W : World} {B B' : Nat} {v : Value} {s : Sec} (h : SecV W B v s) (hb : B ≤ B') : SecV W B' v s := by
  obtain ⟨u, rfl, hu⟩ := h
  exact ⟨u, rfl, hu.more joinR hb⟩

section
variable {H : Type} {enc : TypeId × Value → H} {W : World} {base : Nat} {v : Value} {d : DataW H} {p : List MemPlace}
end
end Go.Proofs.Ytjgdgdccnbmbiaa

/-
  Plans, as values and slices read them; an argument that is a plan.
  Conditions: none.
-/
set_option linter.unusedVariables false
set_option linter.unusedSimpArgs false
set_option maxRecDepth 100000
namespace Go.Proofs.Ytjgdgdccnbmbiaa
open Go.ChangeShapes Go.WideShapes Go.ChangeAt Go.RowKit Go.Joins Go.Deep

/-- A signal: its number, its section, its end. -/
abbrev Sg := Int × Int × Int
structure Rt where
  id : Int
  entry : Int
  exit : Int
  path : List Int
  over : List Int
  flanks : List Jn
  timer : Int
structure Pl where
  ver : Int
  par : Int
  secs : List Sec
  pts : List Jn
  sigs : List Sg
  routes : List Rt
def IntR : El Int := fun W B c x => c 0 = some (.int .i64 x)
theorem intR : Elem IntR := ⟨fun h _ => h, fun h _ => h⟩
theorem intR_cells {W : World} {B : Nat} (c c' : Nat → Option Value) (x : Int) (h : ∀ k, k < 1 → c k = c' k) (hx : IntR W B c x) : IntR W B c' x := (h 0 (by omega)).symm.trans hx
def SigR : El Sg := fun W B c x => c 0 = some (.int .i64 x.1) ∧ c 1 = some (.int .i64 x.2.1) ∧ c 2 = some (.int .i64 x.2.2)
theorem sigR : Elem SigR := ⟨fun h _ => h, fun h _ => h⟩
theorem sigR_cells {W : World} {B : Nat} (c c' : Nat → Option Value) (x : Sg) (h : ∀ k, k < 3 → c k = c' k) (hx : SigR W B c x) : SigR W B c' x :=
  ⟨(h 0 (by omega)).symm.trans hx.1, (h 1 (by omega)).symm.trans hx.2.1, (h 2 (by omega)).symm.trans hx.2.2⟩
abbrev IntsIn (W : World) (B : Nat) (v : Value) (l : List Int) : Prop := ListIn 1 IntR W B v l
abbrev SigsIn (W : World) (B : Nat) (v : Value) (l : List Sg) : Prop := ListIn 3 SigR W B v l
/-- A route's three lists. -/
structure RtIn (W : World) (B : Nat) (u3 u4 u5 : Value) (r : Rt) : Prop where
  path : IntsIn W B u3 r.path
  over : IntsIn W B u4 r.over
  flanks : JoinsIn W B u5 r.flanks
theorem RtIn.below {W W' : World} {B : Nat} {u3 u4 u5 : Value} {r : Rt} (h : RtIn W B u3 u4 u5 r) (hb : Below B W W') : RtIn W' B u3 u4 u5 r := ⟨h.path.below intR hb, h.over.below intR hb, h.flanks.below joinR hb⟩
theorem RtIn.more {W : World} {B B' : Nat} {u3 u4 u5 : Value} {r : Rt} (h : RtIn W B u3 u4 u5 r) (hb : B ≤ B') : RtIn W B' u3 u4 u5 r := ⟨h.path.more intR hb, h.over.more intR hb, h.flanks.more joinR hb⟩
def RouteR : El Rt := fun W B c r => c 0 = some (.int .i64 r.id) ∧ c 1 = some (.int .i64 r.entry) ∧ c 2 = some (.int .i64 r.exit) ∧ c 6 = some (.int .i64 r.timer) ∧ ∃ u3 u4 u5, c 3 = some u3 ∧ c 4 = some u4 ∧ c 5 = some u5 ∧ RtIn W B u3 u4 u5 r
theorem routeR : Elem RouteR := ⟨fun ⟨h0, h1, h2, h6, u3, u4, u5, h3, h4, h5, h⟩ hb => ⟨h0, h1, h2, h6, u3, u4, u5, h3, h4, h5, h.below hb⟩, fun ⟨h0, h1, h2, h6, u3, u4, u5, h3, h4, h5, h⟩ hb => ⟨h0, h1, h2, h6, u3, u4, u5, h3, h4, h5, h.more hb⟩⟩
abbrev RoutesIn (W : World) (B : Nat) (v : Value) (l : List Rt) : Prop := ListIn 7 RouteR W B v l
/-- A route by value. -/
def RouteV (W : World) (B : Nat) (v : Value) (r : Rt) : Prop := ∃ u3 u4 u5, v = .agg #[.int .i64 r.id, .int .i64 r.entry, .int .i64 r.exit, u3, u4, u5, .int .i64 r.timer] ∧ RtIn W B u3 u4 u5 r
theorem RouteV.below {W W' : World} {B : Nat} {v : Value} {r : Rt} (h : RouteV W B v r) (hb : Below B W W') : RouteV W' B v r := by
  obtain ⟨u3, u4, u5, rfl, hr⟩ := h
  exact ⟨u3, u4, u5, rfl, hr.below hb⟩
theorem RouteV.more {W : World} {B B' : Nat} {v : Value} {r : Rt} (h : RouteV W B v r) (hb : B ≤ B') : RouteV W B' v r := by
  obtain ⟨u3, u4, u5, rfl, hr⟩ := h
  exact ⟨u3, u4, u5, rfl, hr.more hb⟩
/-- A plan's four lists. -/
structure PlIn (W : World) (B : Nat) (u2 u3 u4 u5 : Value) (p : Pl) : Prop where
  secs : SectsIn W B u2 p.secs
  pts : JoinsIn W B u3 p.pts
  sigs : SigsIn W B u4 p.sigs
  routes : RoutesIn W B u5 p.routes
theorem PlIn.below {W W' : World} {B : Nat} {u2 u3 u4 u5 : Value} {p : Pl} (h : PlIn W B u2 u3 u4 u5 p) (hb : Below B W W') : PlIn W' B u2 u3 u4 u5 p := ⟨h.secs.below secR_ hb, h.pts.below joinR hb, h.sigs.below sigR hb, h.routes.below routeR hb⟩
theorem PlIn.more {W : World} {B B' : Nat} {u2 u3 u4 u5 : Value} {p : Pl} (h : PlIn W B u2 u3 u4 u5 p) (hb : B ≤ B') : PlIn W B' u2 u3 u4 u5 p := ⟨h.secs.more secR_ hb, h.pts.more joinR hb, h.sigs.more sigR hb, h.routes.more routeR hb⟩
def PlanV (W : World) (B : Nat) (v : Value) (p : Pl) : Prop := ∃ u2 u3 u4 u5, v = .agg #[.int .i64 p.ver, .int .i64 p.par, u2, u3, u4, u5] ∧ PlIn W B u2 u3 u4 u5 p
theorem PlanV.below {W W' : World} {B : Nat} {v : Value} {p : Pl} (h : PlanV W B v p) (hb : Below B W W') : PlanV W' B v p := by
  obtain ⟨u2, u3, u4, u5, rfl, hr⟩ := h
  exact ⟨u2, u3, u4, u5, rfl, hr.below hb⟩
theorem PlanV.more {W : World} {B B' : Nat} {v : Value} {p : Pl} (h : PlanV W B v p) (hb : B ≤ B') : PlanV W B' v p := by
  obtain ⟨u2, u3, u4, u5, rfl, hr⟩ := h
  exact ⟨u2, u3, u4, u5, rfl, hr.more hb⟩

section
variable {H : Type} {enc : TypeId × Value → H} {W : World} {base : Nat} {v : Value} {d : DataW H} {p : List MemPlace}
end
end Go.Proofs.Ytjgdgdccnbmbiaa
