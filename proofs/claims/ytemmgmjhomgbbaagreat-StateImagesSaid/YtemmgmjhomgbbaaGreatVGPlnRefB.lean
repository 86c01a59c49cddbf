/-
 A region that draws its order, under a condition on the world that its last operation need not leave standing: a load may be taken first of a cell into which that last operation stores.
 Conditions: from the operation that is taken first a chain of operations, each waiting for the one ahead, leads to the last one.
-/
import Derived.Test.YtemmgmjhomgbbaaGreatVGBase
import Derived.Test.YtemmgmjhomgbbaaGreatVGTrkRef
import Derived.Test.YtemmgmjhomgbbaaGreatVGPlnRefA
set_option linter.unusedVariables false
set_option linter.unusedSimpArgs false
set_option maxRecDepth 100000
namespace Go.Proofs.YtemmgmjhomgbbaaGreat
open Go.RowKit

section
variable {P : Program} {ops : Array Oper} {Q : Exit → Act → World → Prop} {md : Region.Mode} {S : World → Prop} {L : Nat}

/-- Whatever order is picked from here on; S holds behind every operation that is carried out but number L. -/
def wpAnyE (P : Program) (md : Region.Mode) (ops : Array Oper) (Q : Exit → Act → World → Prop) (S : World → Prop) (L : Nat) : Nat → Array Bool → Act → World → Prop
 | 0, listed, a, w => Region.ready md ops listed = [] ∧ Q .normal a w
 | fuel + 1, listed, a, w =>
  (Region.ready md ops listed = [] → Q .normal a w) ∧
  ∀ i ∈ Region.ready md ops listed, wpOp P ops Q i (fun a' w' => (i ≠ L → S w') ∧ wpAnyE P md ops Q S L fuel (listed.setIfInBounds i true) a' w') a w
theorem wpAny_of_E : ∀ (fuel : Nat) (listed : Array Bool) (a : Act) (w : World), wpAnyE P md ops Q S L fuel listed a w → wpAny P md ops Q fuel listed a w
 | 0, _, _, _, h => h
 | fuel + 1, _, _, _, h => ⟨h.1, fun i hi => wpOp_mono (fun a' w' h' => wpAny_of_E fuel _ a' w' h'.2) (h.2 i hi)⟩

/-- Each one waits for the one ahead. -/
def chainB (md : Region.Mode) (ops : Array Oper) : List Nat → Bool
 | c :: d :: r => (match ops[d]? with
  | some o => o.after.toList.any fun e => Region.binds md e && e.on == c
  | none => false) && chainB md ops (d :: r)
 | _ => true
theorem chain_ready {listed : Array Bool} {j : Nat} : ∀ (r : List Nat) (i : Nat), chainB md ops (i :: r) = true → (∀ c ∈ i :: r, listed.getD c true = false) → j ∈ Region.ready md ops listed → j ≠ i → j ∉ i :: r
 | [], i, _, _, _, hne => by simpa using hne
 | d :: r, i, hc, hu, hr, hne => by
  rw [chainB, Bool.and_eq_true] at hc
  have hjd : j ≠ d := by
   rintro rfl
   obtain ⟨_, o, ho, hall⟩ := mem_ready.1 hr
   have h1 := hc.1
   rw [ho] at h1
   obtain ⟨e, he, hb⟩ := List.any_eq_true.1 h1
   rw [Bool.and_eq_true, beq_iff_eq] at hb
   have h2 := hall e (by simpa using he) hb.1
   have h3 := hu i (by simp)
   rw [hb.2] at h2
   rcases Nat.lt_or_ge i listed.size with h' | h'
   ·simp [h'] at h2 h3; rw [h3] at h2; cases h2
   ·simp [Array.getElem?_eq_none h'] at h2
  have := chain_ready r d hc.2 (fun c hcm => hu c (List.mem_cons_of_mem _ hcm)) hr hjd
  intro hm
  rcases List.mem_cons.1 hm with h | h
  ·exact hne h
  ·exact this h
theorem wpAnyE_first {i : Nat} {oi : Oper} {v : Value} {ch : List Nat} (hi : ops[i]? = some oi) (hsel : ∀ (j : Nat) (o : Oper) cs b, ops[j]? = some o → o.op ≠ .select cs b)
  (hQ : ∀ c a w, Q (.panic c) (a.put oi.dst v) w → Q (.panic c) a w) (hch : chainB md ops (i :: ch) = true) (hL : L ∈ i :: ch) :
  ∀ (fuel : Nat) (listed : Array Bool) (a : Act) (w : World),
   (∀ j oj, ops[j]? = some oj → j ≠ i → listed.getD j true = false → (∀ e ∈ oj.after, Region.binds md e = true → e.on ≠ i) → oi.apart ops oj = true) →
   (∀ c ∈ i :: ch, listed.getD c true = false) →
   i ∈ Region.ready md ops listed → YieldsIf P ops S oi v a → S w →
   wpAnyE P md ops Q S L fuel (listed.setIfInBounds i true) (a.put oi.dst v) w → wpAnyE P md ops Q S L (fuel + 1) listed a w := by
 intro fuel
 induction fuel with
 | zero =>
  intro listed a w _ hun hr hy hS H
  refine ⟨fun h => (by rw [h] at hr; cases hr), fun j hj => ?_⟩
  by_cases hji : j = i
  ·subst hji; exact hy.wpOp hi hS ⟨fun _ => hS, H⟩
  ·have := ready_mono hj hji
   rw [H.1] at this
   cases this
 | succ fuel ih =>
  intro listed a w hfree hun hr hy hS H
  refine ⟨fun h => (by rw [h] at hr; cases hr), fun j hj => ?_⟩
  by_cases hji : j = i
  ·subst hji; exact hy.wpOp hi hS ⟨fun _ => hS, H⟩
  ·have hjch := chain_ready ch i hch hun hj hji
   have hjL : j ≠ L := fun e => hjch (e ▸ hL)
   have h1 := H.2 j (ready_mono hj hji)
   obtain ⟨hjun, oj, hoj, hall⟩ := mem_ready.1 hj
   have hnot : ∀ e ∈ oj.after, Region.binds md e = true → e.on ≠ i := fun e he hb heq => by
    have h1 := hall e he hb
    have h0 := (mem_ready.1 hr).1
    rw [heq] at h1
    rcases Nat.lt_or_ge i listed.size with h' | h'
    ·simp [h'] at h0 h1; rw [h0] at h1; cases h1
    ·simp [Array.getElem?_eq_none h'] at h1
   have h2 := wpOp_putIf hoj (hfree j oj hoj hji hjun hnot) (fun cs b => hsel i oi cs b hi) (fun cs b => hsel j oj cs b hoj) hQ hy h1
   have hfree' : ∀ k ok, ops[k]? = some ok → k ≠ i → (listed.setIfInBounds j true).getD k true = false →
     (∀ e ∈ ok.after, Region.binds md e = true → e.on ≠ i) → oi.apart ops ok = true := fun k ok hk hki hun hno => by
    refine hfree k ok hk hki ?_ hno
    by_cases hjk : j = k
    ·subst hjk; exact hjun
    ·rw [getD_set_ne true hjk] at hun; exact hun
   have hun' : ∀ c ∈ i :: ch, (listed.setIfInBounds j true).getD c true = false := fun c hc => by
    have hne : j ≠ c := by rintro rfl; exact hjch hc
    rw [getD_set_ne true hne]
    exact hun c hc
   refine wpOp_mono (fun a' w' h3 => ⟨fun _ => h3.2.1 hjL, ih (listed.setIfInBounds j true) a' w' hfree' hun' (ready_mono hr (Ne.symm hji)) h3.1 (h3.2.1 hjL) ?_⟩) h2
   rw [Array.setIfInBounds_comm _ _ hji]
   exact h3.2.2

/-- Take number i first: ch: the operations from it to the last one, each waiting for the one ahead. -/
theorem wpAnyE_take {i : Nat} {oi : Oper} {v : Value} {fuel : Nat} {listed : Array Bool} {a : Act} {w : World} (ch : List Nat) (hi : ops[i]? = some oi)
  (hs : Region.noSelect ops = true) (hf : Region.free md ops listed i = true) (hr : (Region.ready md ops listed).contains i = true)
  (hQ : ∀ c a w, Q (.panic c) (a.put oi.dst v) w → Q (.panic c) a w) (hch : chainB md ops (i :: ch) = true) (hL : (i :: ch).contains L = true) (hun : ((i :: ch).all fun c => !listed.getD c true) = true)
  (hy : YieldsIf P ops S oi v a) (hS : S w)
  (h : wpAnyE P md ops Q S L fuel (listed.setIfInBounds i true) (a.put oi.dst v) w) : wpAnyE P md ops Q S L (fuel + 1) listed a w :=
 wpAnyE_first hi (Region.noSelect_spec hs) hQ hch (by simpa using hL) fuel listed a w (Region.free_spec hi hf) (fun c hc => by have := List.all_eq_true.1 hun c hc; simpa using this) (by simpa using hr) hy hS h
/-- One operation is next. -/
theorem wpAnyE_one {i : Nat} {o : Oper} {fuel : Nat} {listed : Array Bool} {a : Act} {w : World} (hr : Region.ready md ops listed = [i]) (ho : ops[i]? = some o) (hne : (i != L) = true)
  (h : ∀ K' : Act → World → Prop, Shut (∀ a w, S w → (S w → wpAnyE P md ops Q S L fuel (listed.setIfInBounds i true) a w) → K' a w) → if Region.wanted o (yielded ops a.tmps) = true then Oper.wp P o a w K' Q else K' (a.put o.dst undef) w) :
  wpAnyE P md ops Q S L (fuel + 1) listed a w := by
 refine ⟨fun h0 => absurd (hr ▸ h0) (by simp), fun j hj => ?_⟩
 rw [hr] at hj
 obtain rfl : j = i := by simpa using hj
 exact wpOp_step ho (fun K' hK => h K' (fun a w hS hW => hK a w ⟨fun _ => hS, hW hS⟩))
/-- The last one. -/
theorem wpAnyE_last {o : Oper} {fuel : Nat} {listed : Array Bool} {a : Act} {w : World} (hr : Region.ready md ops listed = [L]) (ho : ops[L]? = some o) (hdone : Region.ready md ops (listed.setIfInBounds L true) = [])
  (h : ∀ K' : Act → World → Prop, Shut (∀ a w, Q .normal a w → K' a w) → if Region.wanted o (yielded ops a.tmps) = true then Oper.wp P o a w K' Q else K' (a.put o.dst undef) w) :
  wpAnyE P md ops Q S L (fuel + 1) listed a w := by
 have done : ∀ (a : Act) (w : World), Q .normal a w → wpAnyE P md ops Q S L fuel (listed.setIfInBounds L true) a w := fun a w h => by
  cases fuel with
  | zero => exact ⟨hdone, h⟩
  | succ n => exact ⟨fun _ => h, by rw [hdone]; simp⟩
 refine ⟨fun h0 => absurd (hr ▸ h0) (by simp), fun j hj => ?_⟩
 rw [hr] at hj
 obtain rfl : j = L := by simpa using hj
 exact wpOp_step ho (fun K' hK => h K' (fun a w hq => hK a w ⟨fun h => absurd rfl h, done a w hq⟩))
/-- The beginning. -/
theorem wp_region_end {id : Nat} {a : Act} {w : World} (L : Nat) (hm : P.follows .mixedOrders = true) (hS : S w.drew)
  (h : S w.drew → wpAnyE P .any ops Q S L ops.size (Array.replicate ops.size false) a w.drew) : (Code.region id ops true).wp P Q a w :=
 wp_region_any hm (wpAny_of_E _ _ _ _ (h hS))
end
section
variable {P : Program} {ops : Array Oper} {md : Region.Mode} {Q : Exit → Act → World → Prop} {S : World → Prop} {L : Nat} {oi : Oper} {fuel : Nat} {listed : Array Bool} {a a' : Act} {w : World} {v : Value}
theorem tke (ch : List Nat) (i : Nat) (hS : S w) (h : wpAnyE P md ops Q S L fuel (listed.setIfInBounds i true) a' w) (hi : ops[i]? = some oi := by rfl)
  (hy : ∀ w', S w' → (execOp a.eval oi).run P w' = .ok (.value v) w' := by intro w' hSw; go_simp; try with_reducible rfl) (ha : a.put oi.dst v = a' := by simp only [zn, Act.put]; rfl)
  (hw : Region.wanted oi (yielded ops a.tmps) = true := by rfl) (hs : Region.noSelect ops = true := by kernel_rfl) (hf : Region.free md ops listed i = true := by kernel_rfl) (hr : (Region.ready md ops listed).contains i = true := by kernel_rfl)
  (hQ : ∀ c a w, Q (.panic c) (a.put oi.dst v) w → Q (.panic c) a w := by exact fun _ _ _ h => h)
  (hch : chainB md ops (i :: ch) = true := by kernel_rfl) (hL : (i :: ch).contains L = true := by kernel_rfl) (hun : ((i :: ch).all fun c => !listed.getD c true) = true := by kernel_rfl) : wpAnyE P md ops Q S L (fuel + 1) listed a w :=
 wpAnyE_take ch hi hs hf hr hQ hch hL hun (Or.inl ⟨hw, hy⟩) hS (ha ▸ h)
theorem tkd {C : World → Prop} (ch : List Nat) (i : Nat) (hS : S w) (hC : ∀ w', S w' → C w') (h : wpAnyE P md ops Q S L fuel (listed.setIfInBounds i true) a' w) (hi : ops[i]? = some oi := by rfl)
  (hy : ∀ w', S w' → C w' → (execOp a.eval oi).run P w' = .ok (.value v) w' := by intro w' hSw hC; go_simp; try with_reducible rfl) (ha : a.put oi.dst v = a' := by simp only [zn, Act.put]; rfl)
  (hw : Region.wanted oi (yielded ops a.tmps) = true := by rfl) (hs : Region.noSelect ops = true := by kernel_rfl) (hf : Region.free md ops listed i = true := by kernel_rfl) (hr : (Region.ready md ops listed).contains i = true := by kernel_rfl)
  (hQ : ∀ c a w, Q (.panic c) (a.put oi.dst v) w → Q (.panic c) a w := by exact fun _ _ _ h => h)
  (hch : chainB md ops (i :: ch) = true := by kernel_rfl) (hL : (i :: ch).contains L = true := by kernel_rfl) (hun : ((i :: ch).all fun c => !listed.getD c true) = true := by kernel_rfl) : wpAnyE P md ops Q S L (fuel + 1) listed a w :=
 wpAnyE_take ch hi hs hf hr hQ hch hL hun (Or.inl ⟨hw, fun w' h' => hy w' h' (hC w' h')⟩) hS (ha ▸ h)
end

theorem owns_belowB {w w' : World} {B base e size n : Nat} {v : Value} {ys : List Value} (h : w.ownsRow base e size v n ys) (hk : ∀ k, v.ownBlock = some k → k < B) (hb : Below B w w') : w'.ownsRow base e size v n ys := by
 refine ⟨h.1, ?_⟩
 rcases h.2 with h2 | ⟨g, cap, cur, h1, h2, h3, h4⟩
 ·exact .inl h2
 ·exact .inr ⟨g, cap, cur, h1, h2, (hb.block g (hk g (by rw [h1]; rfl))).trans h3, h4⟩
theorem joins_belowB {W W' : World} {B lo : Nat} {v : Value} {l : List Jn} (h : JoinsOwn W lo v l) (hk : ∀ k, v.ownBlock = some k → k < B) (hb : Below B W W') : JoinsOwn W' lo v l := by
 obtain ⟨yss, ho, hl, hm, hs, ht⟩ := h
 exact ⟨yss, owns_belowB ho hk hb, hl, hm, hs, fun j ys x h1 h2 => ht j ys x h1 h2⟩
/-- A section whose ends lie in memory of the call's own. -/
def SecO (lo : Nat) : El Sec := fun W B c s => c 0 = some (.int .i64 s.1) ∧ c 1 = some (.int .i64 s.2.1) ∧ ∃ u, c 2 = some u ∧ JoinsOwn W lo u s.2.2 ∧ ∀ k, u.ownBlock = some k → k < B
theorem secO_ (lo : Nat) : Elem (SecO lo) := ⟨fun ⟨h0, h1, u, h2, h3, h4⟩ hb => ⟨h0, h1, u, h2, joins_belowB h3 h4 hb, h4⟩, fun ⟨h0, h1, u, h2, h3, h4⟩ hb => ⟨h0, h1, u, h2, h3, fun k hk => Nat.lt_of_lt_of_le (h4 k hk) hb⟩⟩
theorem secO_cells {lo : Nat} {W : World} {B : Nat} (c c' : Nat → Option Value) (x : Sec) (h : ∀ k, k < 3 → c k = c' k) (hx : SecO lo W B c x) : SecO lo W B c' x := by
 obtain ⟨h0, h1, u, h2, h3⟩ := hx
 exact ⟨(h 0 (by omega)).symm.trans h0, (h 1 (by omega)).symm.trans h1, u, (h 2 (by omega)).symm.trans h2, h3⟩
theorem secO_in {lo : Nat} {W : World} {B : Nat} {c : Nat → Option Value} {s : Sec} (h : SecO lo W B c s) : SecR W B c s := by
 obtain ⟨h0, h1, u, h2, h3, h4⟩ := h
 obtain ⟨A, cap, e, g1, g2, g3, g4⟩ := h3.in_ joinR_cells
 refine ⟨h0, h1, u, h2, A, cap, e, g1, g2, g3, fun hp => ?_⟩
 obtain ⟨b, off, rfl, hb, hc⟩ := g4 hp
 exact ⟨b, off, rfl, h4 b (by rw [e]; rfl), hc⟩
abbrev SectsOwn (W : World) (lo : Nat) (v : Value) (l : List Sec) : Prop := ListOwn 60 3 (SecO lo) W lo v l
theorem SectsOwn.in_ {W : World} {lo : Nat} {v : Value} {l : List Sec} (h : SectsOwn W lo v l) : SectsIn W W.heap.size v l := by
 obtain ⟨A, cap, e, g1, g2, g3, g4⟩ := ListOwn.in_ (fun c c' x hc hx => secO_cells c c' x hc hx) h
 refine ⟨A, cap, e, g1, g2, g3, fun hp => ?_⟩
 obtain ⟨b, off, e, hb, hc⟩ := g4 hp
 exact ⟨b, off, e, hb, fun j hj => secO_in (hc j hj)⟩

/-- Elements that hold no memory. -/
def FlatR {α : Type} (R : El α) : Prop := ∀ {W W' : World} {B B' : Nat} {c : Nat → Option Value} {x : α}, R W B c x → R W' B' c x
theorem intF : FlatR IntR := fun h => h
theorem joinF : FlatR JoinR := fun h => h
theorem sigF : FlatR SigR := fun h => h
section
variable {α : Type} {T : TypeId} {sz : Nat} {R : El α} {W W' : World} {lo : Nat} {v : Value} {l : List α}
theorem own_belowB (hf : FlatR R) {B : Nat} (h : ListOwn T sz R W lo v l) (hk : ∀ k, v.ownBlock = some k → k < B) (hb : Below B W W') : ListOwn T sz R W' lo v l := by
 obtain ⟨yss, ho, hl, hm, hs, ht⟩ := h
 exact ⟨yss, owns_belowB ho hk hb, hl, hm, hs, fun j ys x h1 h2 => hf (ht j ys x h1 h2)⟩
theorem own_kept (hf : FlatR R) {g : Nat} (h : ListOwn T sz R W lo v l) (hg : W.grownBy W' (some g)) (hc : ∀ k, v.ownBlock = some k → k ≠ g) : ListOwn T sz R W' lo v l := by
 obtain ⟨yss, ho, hl, hm, hs, ht⟩ := h
 refine ⟨yss, ho.kept hg ?_, hl, hm, hs, fun j ys x h1 h2 => hf (ht j ys x h1 h2)⟩
 cases hv : v.ownBlock with
 | none => exact .inl rfl
 | some k => refine .inr (fun e => ?_); injection e with e; exact hc k hv e
theorem own_grown (hf : FlatR R) {r : Option Nat} (h : ListOwn T sz R W lo v l) (hg : W.grownBy W' r) (hc : ∀ k, v.ownBlock = some k → r ≠ some k) : ListOwn T sz R W' lo v l := by
 obtain ⟨yss, ho, hl, hm, hs, ht⟩ := h
 refine ⟨yss, ho.kept hg ?_, hl, hm, hs, fun j ys x h1 h2 => hf (ht j ys x h1 h2)⟩
 cases hv : v.ownBlock with
 | none => exact .inl rfl
 | some k => exact .inr (fun e => hc k hv e.symm)
theorem own_block (h : ListOwn T sz R W lo v l) {k : Nat} (hk : v.ownBlock = some k) : ∃ cur, W.heap[k]? = some (.cells cur T (0, 0)) ∧ lo ≤ k := by
 obtain ⟨yss, ho, _⟩ := h
 exact owns_block ho hk
theorem own_lt (h : ListOwn T sz R W lo v l) : ∀ k, v.ownBlock = some k → k < W.heap.size := fun k hk => by
 obtain ⟨cur, h1, _⟩ := own_block h hk
 exact heap_lt h1
theorem own_lo (h : ListOwn T sz R W lo v l) : ∀ k, v.ownBlock = some k → lo ≤ k := fun k hk => (own_block h hk).choose_spec.2
end
abbrev IntsOwn (W : World) (lo : Nat) (v : Value) (l : List Int) : Prop := ListOwn 3 1 IntR W lo v l
abbrev FlanksOwn (W : World) (lo : Nat) (v : Value) (l : List Jn) : Prop := ListOwn 140 2 JoinR W lo v l
abbrev PointsOwn (W : World) (lo : Nat) (v : Value) (l : List Jn) : Prop := ListOwn 67 2 JoinR W lo v l
abbrev SigsOwn (W : World) (lo : Nat) (v : Value) (l : List Sg) : Prop := ListOwn 115 3 SigR W lo v l
/-- A route's three lists, of the call's own. -/
structure RtOwn (W : World) (lo : Nat) (u3 u4 u5 : Value) (r : Rt) : Prop where
 path : IntsOwn W lo u3 r.path
 over : IntsOwn W lo u4 r.over
 flanks : FlanksOwn W lo u5 r.flanks
theorem RtOwn.below {W W' : World} {lo : Nat} {u3 u4 u5 : Value} {r : Rt} (h : RtOwn W lo u3 u4 u5 r) (hb : Below W.heap.size W W') : RtOwn W' lo u3 u4 u5 r := ⟨h.path.below intR hb, h.over.below intR hb, h.flanks.below joinR hb⟩
theorem RtOwn.mono {W : World} {lo lo' : Nat} {u3 u4 u5 : Value} {r : Rt} (h : RtOwn W lo u3 u4 u5 r) (hl : lo' ≤ lo) : RtOwn W lo' u3 u4 u5 r := ⟨h.path.mono hl, h.over.mono hl, h.flanks.mono hl⟩
theorem RtOwn.in_ {W : World} {lo : Nat} {u3 u4 u5 : Value} {r : Rt} (h : RtOwn W lo u3 u4 u5 r) : RtIn W W.heap.size u3 u4 u5 r := ⟨h.path.in_ intR_cells, h.over.in_ intR_cells, h.flanks.in_ joinR_cells⟩
/-- A route whose lists lie in memory of the call's own. -/
def RouteO (lo : Nat) : El Rt := fun W B c r => c 0 = some (.int .i64 r.id) ∧ c 1 = some (.int .i64 r.entry) ∧ c 2 = some (.int .i64 r.exit) ∧ c 6 = some (.int .i64 r.timer) ∧ ∃ u3 u4 u5, c 3 = some u3 ∧ c 4 = some u4 ∧ c 5 = some u5 ∧ RtOwn W lo u3 u4 u5 r ∧
 (∀ k, u3.ownBlock = some k → k < B) ∧ (∀ k, u4.ownBlock = some k → k < B) ∧ ∀ k, u5.ownBlock = some k → k < B
theorem routeO (lo : Nat) : Elem (RouteO lo) := ⟨fun ⟨h0, h1, h2, h6, u3, u4, u5, h3, h4, h5, h, b3, b4, b5⟩ hb => ⟨h0, h1, h2, h6, u3, u4, u5, h3, h4, h5, ⟨own_belowB intF h.path b3 hb, own_belowB intF h.over b4 hb, own_belowB joinF h.flanks b5 hb⟩, b3, b4, b5⟩,
 fun ⟨h0, h1, h2, h6, u3, u4, u5, h3, h4, h5, h, b3, b4, b5⟩ hb => ⟨h0, h1, h2, h6, u3, u4, u5, h3, h4, h5, h, fun k hk => Nat.lt_of_lt_of_le (b3 k hk) hb, fun k hk => Nat.lt_of_lt_of_le (b4 k hk) hb, fun k hk => Nat.lt_of_lt_of_le (b5 k hk) hb⟩⟩
theorem routeO_cells {lo : Nat} {W : World} {B : Nat} (c c' : Nat → Option Value) (x : Rt) (h : ∀ k, k < 7 → c k = c' k) (hx : RouteO lo W B c x) : RouteO lo W B c' x := by
 obtain ⟨h0, h1, h2, h6, u3, u4, u5, h3, h4, h5, hr⟩ := hx
 exact ⟨(h 0 (by omega)).symm.trans h0, (h 1 (by omega)).symm.trans h1, (h 2 (by omega)).symm.trans h2, (h 6 (by omega)).symm.trans h6, u3, u4, u5, (h 3 (by omega)).symm.trans h3, (h 4 (by omega)).symm.trans h4, (h 5 (by omega)).symm.trans h5, hr⟩
theorem in_boundB {α : Type} {T : TypeId} {sz : Nat} {R : El α} {W : World} {lo B : Nat} {v : Value} {l : List α} (hf : FlatR R) (hR : ∀ (c c' : Nat → Option Value) (x : α), (∀ k, k < sz → c k = c' k) → R W W.heap.size c x → R W W.heap.size c' x) (h : ListOwn T sz R W lo v l) (hk : ∀ k, v.ownBlock = some k → k < B) : ListIn sz R W B v l := by
 obtain ⟨A, cap, e, g1, g2, g3, g4⟩ := h.in_ hR
 refine ⟨A, cap, e, g1, g2, g3, fun hp => ?_⟩
 obtain ⟨b, off, rfl, hb, hc⟩ := g4 hp
 exact ⟨b, off, rfl, hk b (by rw [e]; rfl), fun j hj => hf (hc j hj)⟩
theorem routeO_in {lo : Nat} {W : World} {B : Nat} {c : Nat → Option Value} {s : Rt} (h : RouteO lo W B c s) : RouteR W B c s := by
 obtain ⟨h0, h1, h2, h6, u3, u4, u5, h3, h4, h5, h, b3, b4, b5⟩ := h
 exact ⟨h0, h1, h2, h6, u3, u4, u5, h3, h4, h5, ⟨in_boundB intF intR_cells h.path b3, in_boundB intF intR_cells h.over b4, in_boundB joinF joinR_cells h.flanks b5⟩⟩
abbrev RoutesOwn (W : World) (lo : Nat) (v : Value) (l : List Rt) : Prop := ListOwn 64 7 (RouteO lo) W lo v l
theorem RoutesOwn.in_ {W : World} {lo : Nat} {v : Value} {l : List Rt} (h : RoutesOwn W lo v l) : RoutesIn W W.heap.size v l := by
 obtain ⟨A, cap, e, g1, g2, g3, g4⟩ := ListOwn.in_ (fun c c' x hc hx => routeO_cells c c' x hc hx) h
 refine ⟨A, cap, e, g1, g2, g3, fun hp => ?_⟩
 obtain ⟨b, off, e, hb, hc⟩ := g4 hp
 exact ⟨b, off, e, hb, fun j hj => routeO_in (hc j hj)⟩
/-- A plan's four lists, of the call's own. -/
structure PlOwn (W : World) (lo : Nat) (u2 u3 u4 u5 : Value) (p : Pl) : Prop where
 secs : SectsOwn W lo u2 p.secs
 pts : PointsOwn W lo u3 p.pts
 sigs : SigsOwn W lo u4 p.sigs
 routes : RoutesOwn W lo u5 p.routes
theorem PlOwn.below {W W' : World} {lo : Nat} {u2 u3 u4 u5 : Value} {p : Pl} (h : PlOwn W lo u2 u3 u4 u5 p) (hb : Below W.heap.size W W') : PlOwn W' lo u2 u3 u4 u5 p := ⟨h.secs.below (secO_ lo) hb, h.pts.below joinR hb, h.sigs.below sigR hb, h.routes.below (routeO lo) hb⟩
theorem PlOwn.in_ {W : World} {lo : Nat} {u2 u3 u4 u5 : Value} {p : Pl} (h : PlOwn W lo u2 u3 u4 u5 p) : PlIn W W.heap.size u2 u3 u4 u5 p := ⟨h.secs.in_, h.pts.in_ joinR_cells, h.sigs.in_ sigR_cells, h.routes.in_⟩

theorem infoInt : (Tryz.prog.info? 3).map (fun i => (i.zero, i.size, i.bytes)) = some (some (.int .i64 0), 1, 8) := by kernel_rfl
theorem infoRoute7 : (Tryz.prog.info? 64).map (·.size) = some 7 := by kernel_rfl
theorem intR_full {W : World} {B : Nat} (c : Nat → Option Value) (x : Int) (h : IntR W B c x) : ∀ k, k < 1 → ∃ v, c k = some v ∧ v.oneCell' = true := fun k hk => by
 match k, hk with
 | 0, _ => exact ⟨_, h, rfl⟩
theorem own_cat {α : Type} {T : TypeId} {sz : Nat} {R : El α} {W W1 W2 : World} {B1 B2 lo n : Nat} {v : Value} {l m : List α} {yss zss : List (List Value)} (hf : FlatR R) (ho : W.ownsRow lo T sz v n (yss.flatten ++ zss.flatten)) (hn : n = l.length + m.length) (hl : yss.length = l.length) (hm : zss.length = m.length)
  (hy : ∀ ys ∈ yss, ys.length = sz) (hz : ∀ ys ∈ zss, ys.length = sz) (h1 : ∀ (j : Nat) (ys : List Value) (x : α), yss[j]? = some ys → l[j]? = some x → R W1 B1 (fun k => ys[k]?) x) (h2 : ∀ (j : Nat) (ys : List Value) (x : α), zss[j]? = some ys → m[j]? = some x → R W2 B2 (fun k => ys[k]?) x) (hmx : n ≤ maxLen) :
  ListOwn T sz R W lo v (l ++ m) := by
 refine ⟨yss ++ zss, by rw [List.length_append, ← hn, List.flatten_append]; exact ho, by simp [hl, hm], by rw [List.length_append, ← hn]; exact hmx, fun z hz' => ?_, fun j z y hz' hy' => ?_⟩
 ·rcases List.mem_append.1 hz' with h | h
  ·exact hy z h
  ·exact hz z h
 ·rcases Nat.lt_or_ge j l.length with h | h
  ·rw [List.getElem?_append_left (by omega)] at hz'
   rw [List.getElem?_append_left h] at hy'
   exact hf (h1 j z y hz' hy')
  ·rw [List.getElem?_append_right (by omega), hl] at hz'
   rw [List.getElem?_append_right h] at hy'
   exact hf (h2 (j - l.length) z y hz' hy')
theorem wpList_store_rowS {P : Program} {ops : Array Oper} {rest : List Oper} {op : Oper} {a : Act} {w : World} {Q : Exit → Act → World → Prop} (hgd : op.guard = none) (ty : TypeId) (x y : Operand) (ho : op.op = .store ty x y)
  (b : Nat) (hx : a.eval x = .pointer (some ⟨b, 0, none⟩)) {c c' : Array Value} (hy : a.eval y = .agg c') {t : TypeId} (hb : w.heap[b]? = some (.cells c t (0, 0)))
  (hi : (P.info? ty).map (·.size) = some c'.size) (hs : c.size = c'.size) (h1 : c'.all (·.oneCell') = true)
  (h : wpList P ops Q rest (a.put op.dst undef) (w.setRow b c')) : wpList P ops Q (op :: rest) a w :=
 wpList_plain hgd fun _ hK => by
  unfold Oper.wp execOp
  simp only [ho, hx, hy, Instr.storeAt, Instr.sureAddr, Sem.run_bind, Sem.run_pure, Result.andThen_ok]
  rw [run_storeVar_row w b t ty c c' hb hi hs h1]
  exact hK _ _ h

end Go.Proofs.YtemmgmjhomgbbaaGreat
