/-
  Lists of anything, as slices read them: in memory that came in, in memory of the call's own; how that lasts; and how an argument comes to be read so.
  Conditions: none.
-/
import Derived.Test.YthlolpflgninjaaCore
set_option linter.unusedVariables false
set_option linter.unusedSimpArgs false
set_option maxRecDepth 100000
namespace Go.Proofs.Ythlolpflgninjaa
open Go.ChangeShapes Go.WideShapes Go.ChangeAt Go.RowKit Go.Joins Go.Deep

/-- How an element's cells read: c tells each cell. -/
abbrev El (α : Type) := World → Nat → (Nat → Option Value) → α → Prop
structure Elem {α : Type} (R : El α) : Prop where
  below : ∀ {W W' : World} {B : Nat} {c : Nat → Option Value} {x : α}, R W B c x → Below B W W' → R W' B c x
  more : ∀ {W : World} {B B' : Nat} {c : Nat → Option Value} {x : α}, R W B c x → B ≤ B' → R W B' c x
/-- The slice v reads as the list xs, each element sz cells. -/
def ListIn {α : Type} (sz : Nat) (R : El α) (W : World) (B : Nat) (v : Value) (xs : List α) : Prop :=
  ∃ (A : Option Addr) (cap : Nat), v = .slice A xs.length cap ∧ xs.length ≤ cap ∧ cap ≤ maxLen ∧ (A = none → cap = 0) ∧
    (0 < xs.length → ∃ b off, A = some ⟨b, off, none⟩ ∧ b < B ∧ ∀ j (h : j < xs.length), R W B (fun k => W.cell? ⟨b, off + j * sz + k, none⟩) xs[j])
section
variable {α : Type} {sz : Nat} {R : El α} {W W' : World} {B : Nat} {v : Value} {xs : List α}
theorem ListIn.nil_ : ListIn sz R W B (.slice none 0 0) ([] : List α) := ⟨none, 0, rfl, Nat.le_refl _, Nat.zero_le _, fun _ => rfl, fun h => absurd h (by simp)⟩
theorem ListIn.below (e : Elem R) (h : ListIn sz R W B v xs) (hb : Below B W W') : ListIn sz R W' B v xs := by
  obtain ⟨A, cap, h0, h1, h2, hn, h3⟩ := h
  refine ⟨A, cap, h0, h1, h2, hn, fun hp => ?_⟩
  obtain ⟨b, off, ha, hlt, hc⟩ := h3 hp
  refine ⟨b, off, ha, hlt, fun j hj => ?_⟩
  have hf : (fun k => W'.cell? ⟨b, off + j * sz + k, none⟩) = fun k => W.cell? ⟨b, off + j * sz + k, none⟩ := funext fun k => hb.cell (p := ⟨b, _, none⟩) hlt
  rw [hf]
  exact e.below (hc j hj) hb
theorem ListIn.more (e : Elem R) {B' : Nat} (h : ListIn sz R W B v xs) (hB : B ≤ B') : ListIn sz R W B' v xs := by
  obtain ⟨A, cap, h0, h1, h2, hn, h3⟩ := h
  refine ⟨A, cap, h0, h1, h2, hn, fun hp => ?_⟩
  obtain ⟨b, off, ha, hlt, hc⟩ := h3 hp
  exact ⟨b, off, ha, by omega, fun j hj => e.more (hc j hj) hB⟩
theorem ListIn.slice (h : ListIn sz R W B v xs) : ∃ A c, v = .slice A xs.length c ∧ xs.length ≤ c ∧ c ≤ maxLen := by
  obtain ⟨A, cap, h0, h1, h2, _⟩ := h
  exact ⟨A, cap, h0, h1, h2⟩
/-- One element. -/
theorem ListIn.at {A : Option Addr} {n cap : Nat} (h : ListIn sz R W B (.slice A n cap) xs) {j : Nat} (hj : j < xs.length) :
    ∃ b off, A = some ⟨b, off, none⟩ ∧ b < B ∧ R W B (fun k => W.cell? ⟨b, off + j * sz + k, none⟩) xs[j] := by
  obtain ⟨A', cap', e, _, _, _, h3⟩ := h
  cases e
  obtain ⟨b, off, ha, hb, hc⟩ := h3 (by omega)
  exact ⟨b, off, ha, hb, hc j hj⟩
/-- An argument that reads as data reads as a list of what its elements read as. -/
theorem list_of_trod {H : Type} {enc : TypeId × Value → H} {tS T : TypeId} (hu : Try.prog.underlying tS = some (.slice T)) (hC : Try.prog.cellsOf T = sz) (hsz : 0 < sz)
    (hel : ∀ (n : Nat) (cs : List Value) (y : DataW H × List MemPlace), DataW.trod enc Try.prog W 0 (fun _ => true) true n T cs = some y → cs.length = sz → ∃ x : α, R W W.heap.size (fun k => cs[k]?) x) (x0 : α)
    (hR : ∀ (c c' : Nat → Option Value) (x : α), (∀ k, k < sz → c k = c' k) → R W W.heap.size c x → R W W.heap.size c' x)
    {n : Nat} {y : DataW H × List MemPlace} (h : DataW.trod enc Try.prog W 0 (fun _ => true) true n tS [v] = some y) :
    ∃ xs : List α, ListIn sz R W W.heap.size v xs := by
  rcases open_slice hu h with ⟨hcs, _⟩ | ⟨a, len, cap, m, n', D, Pl, hcs, _, hl, hm, hmm, _, hi⟩
  · simp at hcs
    subst hcs
    exact ⟨[], ListIn.nil_⟩
  · simp at hcs
    subst hcs
    simp only [if_true] at hmm
    have each : ∀ i, ∃ x : α, i < m → (∃ u, W.cell? (a.add (i * sz)) = some u) ∧ R W W.heap.size (fun k => W.cell? (a.add (i * sz + k))) x := fun i => by
      by_cases him : i < m
      · obtain ⟨cs', hc, ht⟩ := hi i him
        rw [hC] at hc
        obtain ⟨_, hcl, hat⟩ := World.cells?_some hc
        obtain ⟨x, hx⟩ := hel _ _ _ ht hcl
        have hcell : ∀ k, k < sz → cs'[k]? = W.cell? (a.add (i * sz + k)) := fun k hk => by
          have h0 := hat k (by omega)
          rw [Addr.add_add] at h0
          rw [h0, List.getElem?_eq_getElem (by omega)]
        refine ⟨x, fun _ => ⟨⟨cs'[0]'(by omega), ?_⟩, hR _ _ x hcell hx⟩⟩
        have h0 := hcell 0 hsz
        rw [Nat.add_zero, List.getElem?_eq_getElem (by omega)] at h0
        exact h0.symm
      · exact ⟨x0, fun h => absurd h him⟩
    obtain ⟨f, hf⟩ := Classical.axiomOfChoice each
    have hlen : ((List.range len).map f).length = len := by simp
    refine ⟨(List.range len).map f, some a, cap, by rw [hlen], by rw [hlen]; exact hl, hm, fun e => (by cases e), fun hp => ?_⟩
    rw [hlen] at hp
    obtain ⟨⟨u0, h0⟩, _⟩ := hf 0 (by omega)
    obtain ⟨b, off, rfl⟩ := addr_plain (by omega) h0
    refine ⟨b, off, rfl, by simpa [Addr.add] using cell_lt h0, fun j hj => ?_⟩
    rw [hlen] at hj
    have h1 := (hf j (by omega)).2
    have he : (fun k => W.cell? ((⟨b, off, none⟩ : Addr).add (j * sz + k))) = fun k => W.cell? ⟨b, off + j * sz + k, none⟩ := funext fun k => by rw [Addr.add_lit, Nat.add_assoc]
    rw [he] at h1
    simpa using h1
end

/-- A list of the call's own: its elements' cells, one behind the other. -/
def ListOwn {α : Type} (T : TypeId) (sz : Nat) (R : El α) (W : World) (lo : Nat) (v : Value) (xs : List α) : Prop :=
  ∃ yss : List (List Value), W.ownsRow lo T sz v xs.length yss.flatten ∧ yss.length = xs.length ∧ xs.length ≤ maxLen ∧ (∀ ys ∈ yss, ys.length = sz) ∧
    ∀ (j : Nat) (ys : List Value) (x : α), yss[j]? = some ys → xs[j]? = some x → R W W.heap.size (fun k => ys[k]?) x
theorem flat_at {sz : Nat} : ∀ (yss : List (List Value)) (j k : Nat) (ys : List Value), (∀ ys ∈ yss, ys.length = sz) → yss[j]? = some ys → k < sz → yss.flatten[j * sz + k]? = ys[k]?
  | [], j, k, ys, _, h, _ => by simp at h
  | y :: yss, 0, k, ys, hl, h, hk => by
    cases h
    rw [List.flatten_cons, Nat.zero_mul, Nat.zero_add, List.getElem?_append_left (by rw [hl _ (by simp)]; exact hk)]
  | y :: yss, j + 1, k, ys, hl, h, hk => by
    have hy := hl y (by simp)
    rw [List.flatten_cons, List.getElem?_append_right (by rw [hy, Nat.succ_mul]; omega), hy, show (j + 1) * sz + k - sz = j * sz + k from by rw [Nat.succ_mul]; omega]
    exact flat_at yss j k ys (fun z hz => hl z (by simp [hz])) (by simpa using h) hk
theorem flat_length {sz : Nat} : ∀ (yss : List (List Value)), (∀ ys ∈ yss, ys.length = sz) → yss.flatten.length = yss.length * sz
  | [], _ => by simp
  | y :: yss, h => by
    rw [List.flatten_cons, List.length_append, h y (by simp), flat_length yss (fun z hz => h z (by simp [hz])), List.length_cons, Nat.succ_mul]; omega
section
variable {α : Type} {T : TypeId} {sz : Nat} {R : El α} {W W' : World} {lo : Nat} {v : Value} {xs : List α}
theorem ListOwn.nil_ : ListOwn T sz R W lo (.slice none 0 0) ([] : List α) := ⟨[], World.ownsRow_nil _ _ _ _, rfl, by simp, by simp, fun j ys x h => by simp at h⟩
theorem ListOwn.below (e : Elem R) (h : ListOwn T sz R W lo v xs) (hb : Below W.heap.size W W') : ListOwn T sz R W' lo v xs := by
  obtain ⟨yss, ho, hl, hm, hs, ht⟩ := h
  exact ⟨yss, owns_below ho hb, hl, hm, hs, fun j ys x h1 h2 => e.more (e.below (ht j ys x h1 h2) hb) hb.size⟩
theorem ListOwn.mono {lo' : Nat} (h : ListOwn T sz R W lo v xs) (hl : lo' ≤ lo) : ListOwn T sz R W lo' v xs := by
  obtain ⟨yss, ho, h⟩ := h
  exact ⟨yss, owns_mono ho hl, h⟩
theorem ListOwn.in_ (hR : ∀ (c c' : Nat → Option Value) (x : α), (∀ k, k < sz → c k = c' k) → R W W.heap.size c x → R W W.heap.size c' x) (h : ListOwn T sz R W lo v xs) : ListIn sz R W W.heap.size v xs := by
  obtain ⟨yss, ho, hl, hm, hs, ht⟩ := h
  have ho' := ho
  rcases ho.2 with ⟨rfl, h0⟩ | ⟨g, cap, cur, rfl, _, hgb, hcap, hmx, _⟩
  · exact ⟨none, 0, by rw [h0], by omega, Nat.zero_le _, fun _ => rfl, fun h => absurd h (by omega)⟩
  · refine ⟨_, cap, rfl, hcap, hmx, (fun e => by cases e), fun _ => ⟨g, 0, rfl, (Array.getElem?_eq_some_iff.1 hgb).1, fun j hj => ?_⟩⟩
    have hx : xs[j]? = some xs[j] := List.getElem?_eq_getElem hj
    have hy : yss[j]? = some (yss[j]'(by omega)) := List.getElem?_eq_getElem (by omega)
    refine hR _ _ _ (fun k hk => ?_) (ht j _ _ hy hx)
    have hjk : j * sz + k < xs.length * sz := by
      have := Nat.mul_le_mul_right sz (show j + 1 ≤ xs.length from hj)
      rw [Nat.succ_mul] at this
      omega
    rw [Nat.zero_add, ho'.cellAt (j * sz + k) hjk, flat_at yss j k _ hs hy hk]
theorem ListOwn.snoc {w1 w2 : World} {v2 : Value} {ys : List Value} {x : α} {o : Obj} {yss : List (List Value)} (e : Elem R) (hT : ∀ {W W' : World} {c : Nat → Option Value} {y : α} {g : Nat}, lo ≤ g → R W W.heap.size c y → W.grownBy W' (some g) → (∃ cur, W.heap[g]? = some (.cells cur T (0, 0))) → R W' W'.heap.size c y)
    (ho : W.ownsRow lo T sz v xs.length yss.flatten) (hl : yss.length = xs.length) (hs : ∀ ys ∈ yss, ys.length = sz) (hy : ys.length = sz) (hm : xs.length + 1 ≤ maxLen)
    (ht : ∀ (j : Nat) (ys : List Value) (x : α), yss[j]? = some ys → xs[j]? = some x → R W W.heap.size (fun k => ys[k]?) x) (hb : Below W.heap.size W w1) (hx : R w1 w1.heap.size (fun k => ys[k]?) x)
    (hown : w2.ownsRow lo T sz v2 (xs.length + 1) (yss.flatten ++ ys)) (hgr : (w1.alloc o).grownBy w2 v.ownBlock) : ListOwn T sz R w2 lo v2 (xs ++ [x]) := by
  have hba : Below W.heap.size W (w1.alloc o) := hb.alloc hb.size o
  have hxa : R (w1.alloc o) (w1.alloc o).heap.size (fun k => ys[k]?) x := e.more (e.below hx (below_new w1 o)) (below_new w1 o).size
  have keep : ∀ (c : Nat → Option Value) (y : α), R (w1.alloc o) (w1.alloc o).heap.size c y → R w2 w2.heap.size c y := fun c y h => by
    cases hv : v.ownBlock with
    | none =>
      rw [hv] at hgr
      have hbb : Below (w1.alloc o).heap.size (w1.alloc o) w2 := (Below.refl _ _).grown hgr (Nat.le_refl _) (fun k hk => by cases hk)
      exact e.more (e.below h hbb) hbb.size
    | some g =>
      rw [hv] at hgr
      obtain ⟨c1, h1, _⟩ := owns_block ho hv
      exact hT (own_ge ho g hv) h hgr ⟨c1, (hba.block g (Array.getElem?_eq_some_iff.1 h1).1).trans h1⟩
  refine ⟨yss ++ [ys], by rw [List.length_append, List.length_singleton, List.flatten_append, List.flatten_singleton]; exact hown, by simp [hl], by simpa using hm, fun z hz => ?_, fun j z y hz hy' => ?_⟩
  · rcases List.mem_append.1 hz with h | h
    · exact hs z h
    · rw [List.mem_singleton.1 h]; exact hy
  · rcases Nat.lt_or_ge j xs.length with h | h
    · rw [List.getElem?_append_left (by omega)] at hz
      rw [List.getElem?_append_left h] at hy'
      exact keep _ _ (e.more (e.below (ht j z y hz hy') hba) hba.size)
    · have hj1 : j = xs.length := by
        have := (List.getElem?_eq_some_iff.1 hy').1
        rw [List.length_append, List.length_singleton] at this
        omega
      subst hj1
      rw [List.getElem?_append_right (by omega), hl, Nat.sub_self] at hz
      rw [List.getElem?_append_right (by omega), Nat.sub_self] at hy'
      cases hz
      cases hy'
      exact keep _ _ hxa
end
end Go.Proofs.Ythlolpflgninjaa
