/-
 A region that draws its order, under a condition on the world that its last operation need not leave standing: a load may be taken first of a cell into which that last operation stores.
 Conditions: from the operation that is taken first a chain of operations, each waiting for the one ahead, leads to the last one.
-/
import Derived.Test.YtneeocnjfnneoaaGreatQGBase
import Derived.Test.YtneeocnjfnneoaaGreatQGTrkRef
import Derived.Test.YtneeocnjfnneoaaGreatQGPlnRefA
set_option linter.unusedVariables false
set_option linter.unusedSimpArgs false
set_option maxRecDepth 100000
namespace Go.Proofs.YtneeocnjfnneoaaGreat
open Go.RowKit

section
variable {P : Program} {ops : Array Oper} {Q : Exit → Act → World → Prop} {md : Region.Mode} {S : World → Prop} {L : Nat}

/-- Whatever order is picked from here on; S holds behind every operation that is carried out but number L. -/
def wpAnyE (P : Program) (md : Region.Mode) (ops : Array Oper) (Q : Exit → Act → World → Prop) (S : World → Prop) (L : Nat) : Nat → Array Bool → Act → World → Prop
 | 0, listed, a, w => Region.ready md ops listed = [] ∧ Q .normal a w
 | fuel + 1, listed, a, w =>
  (Region.ready md ops listed = [] → Q .normal a w) ∧
  ∀ i ∈ Region.ready md ops listed, wpOp P ops Q i (fun a' w' => (i ≠ L → S w') ∧ wpAnyE P md ops Q S L fuel (listed.setIfInBounds i true) a' w') a w
theorem wpAny_of_E : ∀ (fuel : Nat) (listed : Array Bool) (a : Act) (w : World), wpAnyE P md ops Q S L fuel listed a w → wpAny P md ops Q fuel listed a w
 | 0, _, _, _, h => h
 | fuel + 1, _, _, _, h => ⟨h.1, fun i hi => wpOp_mono (fun a' w' h' => wpAny_of_E fuel _ a' w' h'.2) (h.2 i hi)⟩

/-- Each one waits for the one ahead. -/
def chainB (md : Region.Mode) (ops : Array Oper) : List Nat → Bool
 | c :: d :: r => (match ops[d]? with
  | some o => o.after.toList.any fun e => Region.binds md e && e.on == c
  | none => false) && chainB md ops (d :: r)
 | _ => true
theorem chain_ready {listed : Array Bool} {j : Nat} : ∀ (r : List Nat) (i : Nat), chainB md ops (i :: r) = true → (∀ c ∈ i :: r, listed.getD c true = false) → j ∈ Region.ready md ops listed → j ≠ i → j ∉ i :: r
 | [], i, _, _, _, hne => by simpa using hne
 | d :: r, i, hc, hu, hr, hne => by
  rw [chainB, Bool.and_eq_true] at hc
  have hjd : j ≠ d := by
   rintro rfl
   obtain ⟨_, o, ho, hall⟩ := mem_ready.1 hr
   have h1 := hc.1
   rw [ho] at h1
   obtain ⟨e, he, hb⟩ := List.any_eq_true.1 h1
   rw [Bool.and_eq_true, beq_iff_eq] at hb
   have h2 := hall e (by simpa using he) hb.1
   have h3 := hu i (by simp)
   rw [hb.2] at h2
   rcases Nat.lt_or_ge i listed.size with h' | h'
   ·simp [h'] at h2 h3; rw [h3] at h2; cases h2
   ·simp [Array.getElem?_eq_none h'] at h2
  have := chain_ready r d hc.2 (fun c hcm => hu c (List.mem_cons_of_mem _ hcm)) hr hjd
  intro hm
  rcases List.mem_cons.1 hm with h | h
  ·exact hne h
  ·exact this h
theorem wpAnyE_first {i : Nat} {oi : Oper} {v : Value} {ch : List Nat} (hi : ops[i]? = some oi) (hsel : ∀ (j : Nat) (o : Oper) cs b, ops[j]? = some o → o.op ≠ .select cs b)
  (hQ : ∀ c a w, Q (.panic c) (a.put oi.dst v) w → Q (.panic c) a w) (hch : chainB md ops (i :: ch) = true) (hL : L ∈ i :: ch) :
  ∀ (fuel : Nat) (listed : Array Bool) (a : Act) (w : World),
   (∀ j oj, ops[j]? = some oj → j ≠ i → listed.getD j true = false → (∀ e ∈ oj.after, Region.binds md e = true → e.on ≠ i) → oi.apart ops oj = true) →
   (∀ c ∈ i :: ch, listed.getD c true = false) →
   i ∈ Region.ready md ops listed → YieldsIf P ops S oi v a → S w →
   wpAnyE P md ops Q S L fuel (listed.setIfInBounds i true) (a.put oi.dst v) w → wpAnyE P md ops Q S L (fuel + 1) listed a w := by
 intro fuel
 induction fuel with
 | zero =>
  intro listed a w _ hun hr hy hS H
  refine ⟨fun h => (by rw [h] at hr; cases hr), fun j hj => ?_⟩
  by_cases hji : j = i
  ·subst hji; exact hy.wpOp hi hS ⟨fun _ => hS, H⟩
  ·have := ready_mono hj hji
   rw [H.1] at this
   cases this
 | succ fuel ih =>
  intro listed a w hfree hun hr hy hS H
  refine ⟨fun h => (by rw [h] at hr; cases hr), fun j hj => ?_⟩
  by_cases hji : j = i
  ·subst hji; exact hy.wpOp hi hS ⟨fun _ => hS, H⟩
  ·have hjch := chain_ready ch i hch hun hj hji
   have hjL : j ≠ L := fun e => hjch (e ▸ hL)
   have h1 := H.2 j (ready_mono hj hji)
   obtain ⟨hjun, oj, hoj, hall⟩ := mem_ready.1 hj
   have hnot : ∀ e ∈ oj.after, Region.binds md e = true → e.on ≠ i := fun e he hb heq => by
    have h1 := hall e he hb
    have h0 := (mem_ready.1 hr).1
    rw [heq] at h1
    rcases Nat.lt_or_ge i listed.size with h' | h'
    ·simp [h'] at h0 h1; rw [h0] at h1; cases h1
    ·simp [Array.getElem?_eq_none h'] at h1
   have h2 := wpOp_putIf hoj (hfree j oj hoj hji hjun hnot) (fun cs b => hsel i oi cs b hi) (fun cs b => hsel j oj cs b hoj) hQ hy h1
   have hfree' : ∀ k ok, ops[k]? = some ok → k ≠ i → (listed.setIfInBounds j true).getD k true = false →
     (∀ e ∈ ok.after, Region.binds md e = true → e.on ≠ i) → oi.apart ops ok = true := fun k ok hk hki hun hno => by
    refine hfree k ok hk hki ?_ hno
    by_cases hjk : j = k
    ·subst hjk; exact hjun
    ·rw [getD_set_ne true hjk] at hun; exact hun
   have hun' : ∀ c ∈ i :: ch, (listed.setIfInBounds j true).getD c true = false := fun c hc => by
    have hne : j ≠ c := by rintro rfl; exact hjch hc
    rw [getD_set_ne true hne]
    exact hun c hc
   refine wpOp_mono (fun a' w' h3 => ⟨fun _ => h3.2.1 hjL, ih (listed.setIfInBounds j true) a' w' hfree' hun' (ready_mono hr (Ne.symm hji)) h3.1 (h3.2.1 hjL) ?_⟩) h2
   rw [Array.setIfInBounds_comm _ _ hji]
   exact h3.2.2

/-- Take number i first: ch: the operations from it to the last one, each waiting for the one ahead. -/
theorem wpAnyE_take {i : Nat} {oi : Oper} {v : Value} {fuel : Nat} {listed : Array Bool} {a : Act} {w : World} (ch : List Nat) (hi : ops[i]? = some oi)
  (hs : Region.noSelect ops = true) (hf : Region.free md ops listed i = true) (hr : (Region.ready md ops listed).contains i = true)
  (hQ : ∀ c a w, Q (.panic c) (a.put oi.dst v) w → Q (.panic c) a w) (hch : chainB md ops (i :: ch) = true) (hL : (i :: ch).contains L = true) (hun : ((i :: ch).all fun c => !listed.getD c true) = true)
  (hy : YieldsIf P ops S oi v a) (hS : S w)
  (h : wpAnyE P md ops Q S L fuel (listed.setIfInBounds i true) (a.put oi.dst v) w) : wpAnyE P md ops Q S L (fuel + 1) listed a w :=
 wpAnyE_first hi (Region.noSelect_spec hs) hQ hch (by simpa using hL) fuel listed a w (Region.free_spec hi hf) (fun c hc => by have := List.all_eq_true.1 hun c hc; simpa using this) (by simpa using hr) hy hS h
/-- One operation is next. -/
theorem wpAnyE_one {i : Nat} {o : Oper} {fuel : Nat} {listed : Array Bool} {a : Act} {w : World} (hr : Region.ready md ops listed = [i]) (ho : ops[i]? = some o) (hne : (i != L) = true)
  (h : ∀ K' : Act → World → Prop, Shut (∀ a w, S w → (S w → wpAnyE P md ops Q S L fuel (listed.setIfInBounds i true) a w) → K' a w) → if Region.wanted o (yielded ops a.tmps) = true then Oper.wp P o a w K' Q else K' (a.put o.dst undef) w) :
  wpAnyE P md ops Q S L (fuel + 1) listed a w := by
 refine ⟨fun h0 => absurd (hr ▸ h0) (by simp), fun j hj => ?_⟩
 rw [hr] at hj
 obtain rfl : j = i := by simpa using hj
 exact wpOp_step ho (fun K' hK => h K' (fun a w hS hW => hK a w ⟨fun _ => hS, hW hS⟩))
/-- The last one. -/
theorem wpAnyE_last {o : Oper} {fuel : Nat} {listed : Array Bool} {a : Act} {w : World} (hr : Region.ready md ops listed = [L]) (ho : ops[L]? = some o) (hdone : Region.ready md ops (listed.setIfInBounds L true) = [])
  (h : ∀ K' : Act → World → Prop, Shut (∀ a w, Q .normal a w → K' a w) → if Region.wanted o (yielded ops a.tmps) = true then Oper.wp P o a w K' Q else K' (a.put o.dst undef) w) :
  wpAnyE P md ops Q S L (fuel + 1) listed a w := by
 have done : ∀ (a : Act) (w : World), Q .normal a w → wpAnyE P md ops Q S L fuel (listed.setIfInBounds L true) a w := fun a w h => by
  cases fuel with
  | zero => exact ⟨hdone, h⟩
  | succ n => exact ⟨fun _ => h, by rw [hdone]; simp⟩
 refine ⟨fun h0 => absurd (hr ▸ h0) (by simp), fun j hj => ?_⟩
 rw [hr] at hj
 obtain rfl : j = L := by simpa using hj
 exact wpOp_step ho (fun K' hK => h K' (fun a w hq => hK a w ⟨fun h => absurd rfl h, done a w hq⟩))
/-- The beginning. -/
theorem wp_region_end {id : Nat} {a : Act} {w : World} (L : Nat) (hm : P.follows .mixedOrders = true) (hS : S w.drew)
  (h : S w.drew → wpAnyE P .any ops Q S L ops.size (Array.replicate ops.size false) a w.drew) : (Code.region id ops true).wp P Q a w :=
 wp_region_any hm (wpAny_of_E _ _ _ _ (h hS))
end
section
variable {P : Program} {ops : Array Oper} {md : Region.Mode} {Q : Exit → Act → World → Prop} {S : World → Prop} {L : Nat} {oi : Oper} {fuel : Nat} {listed : Array Bool} {a a' : Act} {w : World} {v : Value}
theorem tke (ch : List Nat) (i : Nat) (hS : S w) (h : wpAnyE P md ops Q S L fuel (listed.setIfInBounds i true) a' w) (hi : ops[i]? = some oi := by rfl)
  (hy : ∀ w', S w' → (execOp a.eval oi).run P w' = .ok (.value v) w' := by intro w' hSw; go_simp; try with_reducible rfl) (ha : a.put oi.dst v = a' := by simp only [zn, Act.put]; rfl)
  (hw : Region.wanted oi (yielded ops a.tmps) = true := by rfl) (hs : Region.noSelect ops = true := by kernel_rfl) (hf : Region.free md ops listed i = true := by kernel_rfl) (hr : (Region.ready md ops listed).contains i = true := by kernel_rfl)
  (hQ : ∀ c a w, Q (.panic c) (a.put oi.dst v) w → Q (.panic c) a w := by exact fun _ _ _ h => h)
  (hch : chainB md ops (i :: ch) = true := by kernel_rfl) (hL : (i :: ch).contains L = true := by kernel_rfl) (hun : ((i :: ch).all fun c => !listed.getD c true) = true := by kernel_rfl) : wpAnyE P md ops Q S L (fuel + 1) listed a w :=
 wpAnyE_take ch hi hs hf hr hQ hch hL hun (Or.inl ⟨hw, hy⟩) hS (ha ▸ h)
theorem tkd {C : World → Prop} (ch : List Nat) (i : Nat) (hS : S w) (hC : ∀ w', S w' → C w') (h : wpAnyE P md ops Q S L fuel (listed.setIfInBounds i true) a' w) (hi : ops[i]? = some oi := by rfl)
  (hy : ∀ w', S w' → C w' → (execOp a.eval oi).run P w' = .ok (.value v) w' := by intro w' hSw hC; go_simp; try with_reducible rfl) (ha : a.put oi.dst v = a' := by simp only [zn, Act.put]; rfl)
  (hw : Region.wanted oi (yielded ops a.tmps) = true := by rfl) (hs : Region.noSelect ops = true := by kernel_rfl) (hf : Region.free md ops listed i = true := by kernel_rfl) (hr : (Region.ready md ops listed).contains i = true := by kernel_rfl)
  (hQ : ∀ c a w, Q (.panic c) (a.put oi.dst v) w → Q (.panic c) a w := by exact fun _ _ _ h => h)
  (hch : chainB md ops (i :: ch) = true := by kernel_rfl) (hL : (i :: ch).contains L = true := by kernel_rfl) (hun : ((i :: ch).all fun c => !listed.getD c true) = true := by kernel_rfl) : wpAnyE P md ops Q S L (fuel + 1) listed a w :=
 wpAnyE_take ch hi hs hf hr hQ hch hL hun (Or.inl ⟨hw, fun w' h' => hy w' h' (hC w' h')⟩) hS (ha ▸ h)
end

theorem owns_belowB {w w' : World} {B base e size n : Nat} {v : Value} {ys : List Value} (h : w.ownsRow base e size v n ys) (hk : ∀ k, v.ownBlock = some k → k < B) (hb : Below B w w') : w'.ownsRow base e size v n ys := by
 refine ⟨h.1, ?_⟩
 rcases h.2 with h2 | ⟨g, cap, cur, h1, h2, h3, h4⟩
 ·exact .inl h2
 ·exact .inr ⟨g, cap, cur, h1, h2, (hb.block g (hk g (by rw [h1]; rfl))).trans h3, h4⟩
theorem joins_belowB {W W' : World} {B lo : Nat} {v : Value} {l : List Jn} (h : JoinsOwn W lo v l) (hk : ∀ k, v.ownBlock = some k → k < B) (hb : Below B W W') : JoinsOwn W' lo v l := by
 obtain ⟨yss, ho, hl, hm, hs, ht⟩ := h
 exact ⟨yss, owns_belowB ho hk hb, hl, hm, hs, fun j ys x h1 h2 => ht j ys x h1 h2⟩
/-- A section whose ends lie in memory of the call's own. -/
def SecO (lo : Nat) : El Sec := fun W B c s => c 0 = some (.int .i64 s.1) ∧ c 1 = some (.int .i64 s.2.1) ∧ ∃ u, c 2 = some u ∧ JoinsOwn W lo u s.2.2 ∧ ∀ k, u.ownBlock = some k → k < B
theorem secO_ (lo : Nat) : Elem (SecO lo) := ⟨fun ⟨h0, h1, u, h2, h3, h4⟩ hb => ⟨h0, h1, u, h2, joins_belowB h3 h4 hb, h4⟩, fun ⟨h0, h1, u, h2, h3, h4⟩ hb => ⟨h0, h1, u, h2, h3, fun k hk => Nat.lt_of_lt_of_le (h4 k hk) hb⟩⟩
theorem secO_cells {lo : Nat} {W : World} {B : Nat} (c c' : Nat → Option Value) (x : Sec) (h : ∀ k, k < 3 → c k = c' k) (hx : SecO lo W B c x) : SecO lo W B c' x := by
 obtain ⟨h0, h1, u, h2, h3⟩ := hx
 exact ⟨(h 0 (by omega)).symm.trans h0, (h 1 (by omega)).symm.trans h1, u, (h 2 (by omega)).symm.trans h2, h3⟩
theorem joins_kept {W W' : World} {lo g : Nat} {v : Value} {l : List Jn} (h : JoinsOwn W lo v l) (hg : W.grownBy W' (some g)) (hc : ∀ k, v.ownBlock = some k → k ≠ g) : JoinsOwn W' lo v l := by
 obtain ⟨yss, ho, hl, hm, hs, ht⟩ := h
 refine ⟨yss, ho.kept hg ?_, hl, hm, hs, fun j ys x h1 h2 => ht j ys x h1 h2⟩
 cases hv : v.ownBlock with
 | none => exact .inl rfl
 | some k => refine .inr (fun e => ?_); injection e with e; exact hc k hv e
theorem joins_block {W : World} {lo : Nat} {v : Value} {l : List Jn} (h : JoinsOwn W lo v l) {k : Nat} (hk : v.ownBlock = some k) : ∃ cur, W.heap[k]? = some (.cells cur 85 (0, 0)) ∧ lo ≤ k := by
 obtain ⟨yss, ho, _⟩ := h
 exact owns_block ho hk
theorem joins_lt {W : World} {lo : Nat} {v : Value} {l : List Jn} (h : JoinsOwn W lo v l) : ∀ k, v.ownBlock = some k → k < W.heap.size := fun k hk => by
 obtain ⟨cur, h1, _⟩ := joins_block h hk
 exact heap_lt h1
theorem secO_grown {lo : Nat} {W W' : World} {c : Nat → Option Value} {y : Sec} {g : Nat} (hlo : lo ≤ g) (h : SecO lo W W.heap.size c y) (hg : W.grownBy W' (some g)) (hc : ∃ cur, W.heap[g]? = some (.cells cur 67 (0, 0))) : SecO lo W' W'.heap.size c y := by
 obtain ⟨h0, h1, u, h2, h3, h4⟩ := h
 refine ⟨h0, h1, u, h2, joins_kept h3 hg (fun k hk e => ?_), fun k hk => Nat.lt_of_lt_of_le (h4 k hk) hg.size⟩
 subst e
 obtain ⟨cur, hc⟩ := hc
 obtain ⟨cur', hc', _⟩ := joins_block h3 hk
 rw [hc] at hc'
 cases hc'
theorem secO_in {lo : Nat} {W : World} {B : Nat} {c : Nat → Option Value} {s : Sec} (h : SecO lo W B c s) : SecR W B c s := by
 obtain ⟨h0, h1, u, h2, h3, h4⟩ := h
 obtain ⟨A, cap, e, g1, g2, g3, g4⟩ := h3.in_ joinR_cells
 refine ⟨h0, h1, u, h2, A, cap, e, g1, g2, g3, fun hp => ?_⟩
 obtain ⟨b, off, rfl, hb, hc⟩ := g4 hp
 exact ⟨b, off, rfl, h4 b (by rw [e]; rfl), hc⟩
abbrev SectsOwn (W : World) (lo : Nat) (v : Value) (l : List Sec) : Prop := ListOwn 67 3 (SecO lo) W lo v l
theorem SectsOwn.in_ {W : World} {lo : Nat} {v : Value} {l : List Sec} (h : SectsOwn W lo v l) : SectsIn W W.heap.size v l := by
 obtain ⟨A, cap, e, g1, g2, g3, g4⟩ := ListOwn.in_ (fun c c' x hc hx => secO_cells c c' x hc hx) h
 refine ⟨A, cap, e, g1, g2, g3, fun hp => ?_⟩
 obtain ⟨b, off, e, hb, hc⟩ := g4 hp
 exact ⟨b, off, e, hb, fun j hj => secO_in (hc j hj)⟩
/-- One more section. -/
theorem sects_snoc {W w1 w2 : World} {lo n : Nat} {v v2 u : Value} {l : List Sec} {s : Sec} {o : Obj} {yss : List (List Value)} (hn : l.length = n) (ho : W.ownsRow lo 67 3 v n yss.flatten) (hl : yss.length = n) (hs : ∀ ys ∈ yss, ys.length = 3) (hm : n + 1 ≤ maxLen)
  (ht : ∀ (j : Nat) (ys : List Value) (x : Sec), yss[j]? = some ys → l[j]? = some x → SecO lo W W.heap.size (fun k => ys[k]?) x) (hlo : lo ≤ W.heap.size) (hb : Below W.heap.size W w1) (hu : JoinsOwn w1 W.heap.size u s.2.2)
  (hown : w2.ownsRow lo 67 3 v2 (n + 1) (yss.flatten ++ [.int .i64 s.1, .int .i64 s.2.1, u])) (hgr : (w1.alloc o).grownBy w2 v.ownBlock) : SectsOwn w2 lo v2 (l ++ [s]) := by
 subst hn
 exact ListOwn.snoc (secO_ lo) (fun h1 h2 h3 h4 => secO_grown h1 h2 h3 h4) ho hl hs rfl hm ht hb ⟨rfl, rfl, u, rfl, hu.mono hlo, joins_lt hu⟩ hown hgr
/-- The first numbers of a row of joins of the call's own, whatever they are. -/
def ToRow (W : World) (lo m : Nat) (A : Option Addr) : Prop := m = 0 ∨ ∃ (g : Nat) (cur : Array Value), A = some ⟨g, 0, none⟩ ∧ lo ≤ g ∧ W.heap[g]? = some (.cells cur 85 (0, 0)) ∧ ∀ j, j < m → ∃ z : Int, cur[j * 2]? = some (.int .i64 z)
theorem toRow_of {W : World} {lo m c : Nat} {A : Option Addr} {l : List Jn} (h : JoinsOwn W lo (.slice A m c) l) (hl : l.length = m) : ToRow W lo m A := by
 subst hl
 obtain ⟨yss, ho, h1, hm, hs, ht⟩ := h
 have ho' := ho
 rcases ho.2 with ⟨e, h0⟩ | ⟨g, cap, cur, e, hlo, hc, _⟩
 ·exact .inl h0
 ·cases e
  refine .inr ⟨g, cur, rfl, hlo, hc, fun j hj => ?_⟩
  have hx : l[j]? = some l[j] := List.getElem?_eq_getElem hj
  have hy : yss[j]? = some (yss[j]'(by omega)) := List.getElem?_eq_getElem (by omega)
  refine ⟨l[j].1, ?_⟩
  have h2 := ho'.cellAt (j * 2 + 0) (by omega)
  have h3 : (yss[j]'(by omega))[0]? = some (.int .i64 l[j].1) := (ht j _ _ hy hx).1
  rw [flat_at yss j 0 _ hs hy (by omega), h3, cell_of_row _ _ _ _ _ _ hc] at h2
  exact h2
theorem toRow_set {W : World} {lo m g i : Nat} {cur : Array Value} (hlo : lo ≤ g) (h : W.heap[g]? = some (.cells cur 85 (0, 0))) (hc : ∀ j, j < m → ∃ z : Int, cur[j * 2]? = some (.int .i64 z)) (x : Int) : ToRow (W.setCell ⟨g, i * 2, none⟩ (.int .i64 x)) lo m (some ⟨g, 0, none⟩) := by
 refine .inr ⟨g, _, rfl, hlo, heap_setK h _, fun j hj => ?_⟩
 obtain ⟨z, hz⟩ := hc j hj
 have hlt : j * 2 < cur.size := (Array.getElem?_eq_some_iff.1 hz).1
 by_cases he : i * 2 = j * 2
 ·exact ⟨x, by rw [he, Array.getElem?_setIfInBounds_self_of_lt hlt]⟩
 ·exact ⟨z, by rw [Array.getElem?_setIfInBounds_ne he]; exact hz⟩

/-- Elements that hold no memory. -/
def FlatR {α : Type} (R : El α) : Prop := ∀ {W W' : World} {B B' : Nat} {c : Nat → Option Value} {x : α}, R W B c x → R W' B' c x
theorem intF : FlatR IntR := fun h => h
theorem joinF : FlatR JoinR := fun h => h
theorem sigF : FlatR SigR := fun h => h
section
variable {α : Type} {T : TypeId} {sz : Nat} {R : El α} {W W' : World} {lo : Nat} {v : Value} {l : List α}
theorem own_belowB (hf : FlatR R) {B : Nat} (h : ListOwn T sz R W lo v l) (hk : ∀ k, v.ownBlock = some k → k < B) (hb : Below B W W') : ListOwn T sz R W' lo v l := by
 obtain ⟨yss, ho, hl, hm, hs, ht⟩ := h
 exact ⟨yss, owns_belowB ho hk hb, hl, hm, hs, fun j ys x h1 h2 => hf (ht j ys x h1 h2)⟩
theorem own_kept (hf : FlatR R) {g : Nat} (h : ListOwn T sz R W lo v l) (hg : W.grownBy W' (some g)) (hc : ∀ k, v.ownBlock = some k → k ≠ g) : ListOwn T sz R W' lo v l := by
 obtain ⟨yss, ho, hl, hm, hs, ht⟩ := h
 refine ⟨yss, ho.kept hg ?_, hl, hm, hs, fun j ys x h1 h2 => hf (ht j ys x h1 h2)⟩
 cases hv : v.ownBlock with
 | none => exact .inl rfl
 | some k => refine .inr (fun e => ?_); injection e with e; exact hc k hv e
theorem own_grown (hf : FlatR R) {r : Option Nat} (h : ListOwn T sz R W lo v l) (hg : W.grownBy W' r) (hc : ∀ k, v.ownBlock = some k → r ≠ some k) : ListOwn T sz R W' lo v l := by
 obtain ⟨yss, ho, hl, hm, hs, ht⟩ := h
 refine ⟨yss, ho.kept hg ?_, hl, hm, hs, fun j ys x h1 h2 => hf (ht j ys x h1 h2)⟩
 cases hv : v.ownBlock with
 | none => exact .inl rfl
 | some k => exact .inr (fun e => hc k hv e.symm)
theorem own_block (h : ListOwn T sz R W lo v l) {k : Nat} (hk : v.ownBlock = some k) : ∃ cur, W.heap[k]? = some (.cells cur T (0, 0)) ∧ lo ≤ k := by
 obtain ⟨yss, ho, _⟩ := h
 exact owns_block ho hk
theorem own_lt (h : ListOwn T sz R W lo v l) : ∀ k, v.ownBlock = some k → k < W.heap.size := fun k hk => by
 obtain ⟨cur, h1, _⟩ := own_block h hk
 exact heap_lt h1
theorem own_lo (h : ListOwn T sz R W lo v l) : ∀ k, v.ownBlock = some k → lo ≤ k := fun k hk => (own_block h hk).choose_spec.2
end
abbrev IntsOwn (W : World) (lo : Nat) (v : Value) (l : List Int) : Prop := ListOwn 3 1 IntR W lo v l
abbrev FlanksOwn (W : World) (lo : Nat) (v : Value) (l : List Jn) : Prop := ListOwn 64 2 JoinR W lo v l
abbrev PointsOwn (W : World) (lo : Nat) (v : Value) (l : List Jn) : Prop := ListOwn 60 2 JoinR W lo v l
abbrev SigsOwn (W : World) (lo : Nat) (v : Value) (l : List Sg) : Prop := ListOwn 69 3 SigR W lo v l
/-- A route's three lists, of the call's own. -/
structure RtOwn (W : World) (lo : Nat) (u3 u4 u5 : Value) (r : Rt) : Prop where
 path : IntsOwn W lo u3 r.path
 over : IntsOwn W lo u4 r.over
 flanks : FlanksOwn W lo u5 r.flanks
theorem RtOwn.below {W W' : World} {lo : Nat} {u3 u4 u5 : Value} {r : Rt} (h : RtOwn W lo u3 u4 u5 r) (hb : Below W.heap.size W W') : RtOwn W' lo u3 u4 u5 r := ⟨h.path.below intR hb, h.over.below intR hb, h.flanks.below joinR hb⟩
theorem RtOwn.mono {W : World} {lo lo' : Nat} {u3 u4 u5 : Value} {r : Rt} (h : RtOwn W lo u3 u4 u5 r) (hl : lo' ≤ lo) : RtOwn W lo' u3 u4 u5 r := ⟨h.path.mono hl, h.over.mono hl, h.flanks.mono hl⟩
theorem RtOwn.in_ {W : World} {lo : Nat} {u3 u4 u5 : Value} {r : Rt} (h : RtOwn W lo u3 u4 u5 r) : RtIn W W.heap.size u3 u4 u5 r := ⟨h.path.in_ intR_cells, h.over.in_ intR_cells, h.flanks.in_ joinR_cells⟩
/-- A route whose lists lie in memory of the call's own. -/
def RouteO (lo : Nat) : El Rt := fun W B c r => c 0 = some (.int .i64 r.id) ∧ c 1 = some (.int .i64 r.entry) ∧ c 2 = some (.int .i64 r.exit) ∧ c 6 = some (.int .i64 r.timer) ∧ ∃ u3 u4 u5, c 3 = some u3 ∧ c 4 = some u4 ∧ c 5 = some u5 ∧ RtOwn W lo u3 u4 u5 r ∧
 (∀ k, u3.ownBlock = some k → k < B) ∧ (∀ k, u4.ownBlock = some k → k < B) ∧ ∀ k, u5.ownBlock = some k → k < B
theorem routeO (lo : Nat) : Elem (RouteO lo) := ⟨fun ⟨h0, h1, h2, h6, u3, u4, u5, h3, h4, h5, h, b3, b4, b5⟩ hb => ⟨h0, h1, h2, h6, u3, u4, u5, h3, h4, h5, ⟨own_belowB intF h.path b3 hb, own_belowB intF h.over b4 hb, own_belowB joinF h.flanks b5 hb⟩, b3, b4, b5⟩,
 fun ⟨h0, h1, h2, h6, u3, u4, u5, h3, h4, h5, h, b3, b4, b5⟩ hb => ⟨h0, h1, h2, h6, u3, u4, u5, h3, h4, h5, h, fun k hk => Nat.lt_of_lt_of_le (b3 k hk) hb, fun k hk => Nat.lt_of_lt_of_le (b4 k hk) hb, fun k hk => Nat.lt_of_lt_of_le (b5 k hk) hb⟩⟩
theorem routeO_cells {lo : Nat} {W : World} {B : Nat} (c c' : Nat → Option Value) (x : Rt) (h : ∀ k, k < 7 → c k = c' k) (hx : RouteO lo W B c x) : RouteO lo W B c' x := by
 obtain ⟨h0, h1, h2, h6, u3, u4, u5, h3, h4, h5, hr⟩ := hx
 exact ⟨(h 0 (by omega)).symm.trans h0, (h 1 (by omega)).symm.trans h1, (h 2 (by omega)).symm.trans h2, (h 6 (by omega)).symm.trans h6, u3, u4, u5, (h 3 (by omega)).symm.trans h3, (h 4 (by omega)).symm.trans h4, (h 5 (by omega)).symm.trans h5, hr⟩
theorem routeO_grown {lo : Nat} {W W' : World} {c : Nat → Option Value} {y : Rt} {g : Nat} (hlo : lo ≤ g) (h : RouteO lo W W.heap.size c y) (hg : W.grownBy W' (some g)) (hc : ∃ cur, W.heap[g]? = some (.cells cur 54 (0, 0))) : RouteO lo W' W'.heap.size c y := by
 obtain ⟨h0, h1, h2, h6, u3, u4, u5, h3, h4, h5, h, b3, b4, b5⟩ := h
 obtain ⟨cur, hc⟩ := hc
 refine ⟨h0, h1, h2, h6, u3, u4, u5, h3, h4, h5, ⟨own_kept intF h.path hg (fun k hk e => ?_), own_kept intF h.over hg (fun k hk e => ?_), own_kept joinF h.flanks hg (fun k hk e => ?_)⟩, fun k hk => Nat.lt_of_lt_of_le (b3 k hk) hg.size, fun k hk => Nat.lt_of_lt_of_le (b4 k hk) hg.size, fun k hk => Nat.lt_of_lt_of_le (b5 k hk) hg.size⟩
 ·subst e
  obtain ⟨cur', hc', _⟩ := own_block h.path hk
  rw [hc] at hc'
  cases hc'
 ·subst e
  obtain ⟨cur', hc', _⟩ := own_block h.over hk
  rw [hc] at hc'
  cases hc'
 ·subst e
  obtain ⟨cur', hc', _⟩ := own_block h.flanks hk
  rw [hc] at hc'
  cases hc'
theorem in_boundB {α : Type} {T : TypeId} {sz : Nat} {R : El α} {W : World} {lo B : Nat} {v : Value} {l : List α} (hf : FlatR R) (hR : ∀ (c c' : Nat → Option Value) (x : α), (∀ k, k < sz → c k = c' k) → R W W.heap.size c x → R W W.heap.size c' x) (h : ListOwn T sz R W lo v l) (hk : ∀ k, v.ownBlock = some k → k < B) : ListIn sz R W B v l := by
 obtain ⟨A, cap, e, g1, g2, g3, g4⟩ := h.in_ hR
 refine ⟨A, cap, e, g1, g2, g3, fun hp => ?_⟩
 obtain ⟨b, off, rfl, hb, hc⟩ := g4 hp
 exact ⟨b, off, rfl, hk b (by rw [e]; rfl), fun j hj => hf (hc j hj)⟩
theorem routeO_in {lo : Nat} {W : World} {B : Nat} {c : Nat → Option Value} {s : Rt} (h : RouteO lo W B c s) : RouteR W B c s := by
 obtain ⟨h0, h1, h2, h6, u3, u4, u5, h3, h4, h5, h, b3, b4, b5⟩ := h
 exact ⟨h0, h1, h2, h6, u3, u4, u5, h3, h4, h5, ⟨in_boundB intF intR_cells h.path b3, in_boundB intF intR_cells h.over b4, in_boundB joinF joinR_cells h.flanks b5⟩⟩
abbrev RoutesOwn (W : World) (lo : Nat) (v : Value) (l : List Rt) : Prop := ListOwn 54 7 (RouteO lo) W lo v l
theorem RoutesOwn.in_ {W : World} {lo : Nat} {v : Value} {l : List Rt} (h : RoutesOwn W lo v l) : RoutesIn W W.heap.size v l := by
 obtain ⟨A, cap, e, g1, g2, g3, g4⟩ := ListOwn.in_ (fun c c' x hc hx => routeO_cells c c' x hc hx) h
 refine ⟨A, cap, e, g1, g2, g3, fun hp => ?_⟩
 obtain ⟨b, off, e, hb, hc⟩ := g4 hp
 exact ⟨b, off, e, hb, fun j hj => routeO_in (hc j hj)⟩
/-- One more route. -/
theorem routes_snoc {W w1 w2 : World} {lo n : Nat} {v v2 u3 u4 u5 : Value} {l : List Rt} {r : Rt} {o : Obj} {yss : List (List Value)} (hn : l.length = n) (ho : W.ownsRow lo 54 7 v n yss.flatten) (hl : yss.length = n) (hs : ∀ ys ∈ yss, ys.length = 7) (hm : n + 1 ≤ maxLen)
  (ht : ∀ (j : Nat) (ys : List Value) (x : Rt), yss[j]? = some ys → l[j]? = some x → RouteO lo W W.heap.size (fun k => ys[k]?) x) (hlo : lo ≤ W.heap.size) (hb : Below W.heap.size W w1) (hu : RtOwn w1 W.heap.size u3 u4 u5 r)
  (hown : w2.ownsRow lo 54 7 v2 (n + 1) (yss.flatten ++ [.int .i64 r.id, .int .i64 r.entry, .int .i64 r.exit, u3, u4, u5, .int .i64 r.timer])) (hgr : (w1.alloc o).grownBy w2 v.ownBlock) : RoutesOwn w2 lo v2 (l ++ [r]) := by
 subst hn
 exact ListOwn.snoc (routeO lo) (fun h1 h2 h3 h4 => routeO_grown h1 h2 h3 h4) ho hl hs rfl hm ht hb ⟨rfl, rfl, rfl, rfl, u3, u4, u5, rfl, rfl, rfl, hu.mono hlo, own_lt hu.path, own_lt hu.over, own_lt hu.flanks⟩ hown hgr
/-- A plan's four lists, of the call's own. -/
structure PlOwn (W : World) (lo : Nat) (u2 u3 u4 u5 : Value) (p : Pl) : Prop where
 secs : SectsOwn W lo u2 p.secs
 pts : PointsOwn W lo u3 p.pts
 sigs : SigsOwn W lo u4 p.sigs
 routes : RoutesOwn W lo u5 p.routes
theorem PlOwn.below {W W' : World} {lo : Nat} {u2 u3 u4 u5 : Value} {p : Pl} (h : PlOwn W lo u2 u3 u4 u5 p) (hb : Below W.heap.size W W') : PlOwn W' lo u2 u3 u4 u5 p := ⟨h.secs.below (secO_ lo) hb, h.pts.below joinR hb, h.sigs.below sigR hb, h.routes.below (routeO lo) hb⟩
theorem PlOwn.in_ {W : World} {lo : Nat} {u2 u3 u4 u5 : Value} {p : Pl} (h : PlOwn W lo u2 u3 u4 u5 p) : PlIn W W.heap.size u2 u3 u4 u5 p := ⟨h.secs.in_, h.pts.in_ joinR_cells, h.sigs.in_ sigR_cells, h.routes.in_⟩

theorem infoInt : (Tryz.prog.info? 3).map (fun i => (i.zero, i.size, i.bytes)) = some (some (.int .i64 0), 1, 8) := by kernel_rfl
theorem infoFlank : (Tryz.prog.info? 64).map (fun i => (i.zero, i.size, i.bytes)) = some (some (.agg #[.int .i64 0, .int .i64 0]), 2, 16) := by kernel_rfl
theorem infoRoute7 : (Tryz.prog.info? 54).map (·.size) = some 7 := by kernel_rfl
theorem intR_full {W : World} {B : Nat} (c : Nat → Option Value) (x : Int) (h : IntR W B c x) : ∀ k, k < 1 → ∃ v, c k = some v ∧ v.oneCell' = true := fun k hk => by
 match k, hk with
 | 0, _ => exact ⟨_, h, rfl⟩
theorem own_cat {α : Type} {T : TypeId} {sz : Nat} {R : El α} {W W1 W2 : World} {B1 B2 lo n : Nat} {v : Value} {l m : List α} {yss zss : List (List Value)} (hf : FlatR R) (ho : W.ownsRow lo T sz v n (yss.flatten ++ zss.flatten)) (hn : n = l.length + m.length) (hl : yss.length = l.length) (hm : zss.length = m.length)
  (hy : ∀ ys ∈ yss, ys.length = sz) (hz : ∀ ys ∈ zss, ys.length = sz) (h1 : ∀ (j : Nat) (ys : List Value) (x : α), yss[j]? = some ys → l[j]? = some x → R W1 B1 (fun k => ys[k]?) x) (h2 : ∀ (j : Nat) (ys : List Value) (x : α), zss[j]? = some ys → m[j]? = some x → R W2 B2 (fun k => ys[k]?) x) (hmx : n ≤ maxLen) :
  ListOwn T sz R W lo v (l ++ m) := by
 refine ⟨yss ++ zss, by rw [List.length_append, ← hn, List.flatten_append]; exact ho, by simp [hl, hm], by rw [List.length_append, ← hn]; exact hmx, fun z hz' => ?_, fun j z y hz' hy' => ?_⟩
 ·rcases List.mem_append.1 hz' with h | h
  ·exact hy z h
  ·exact hz z h
 ·rcases Nat.lt_or_ge j l.length with h | h
  ·rw [List.getElem?_append_left (by omega)] at hz'
   rw [List.getElem?_append_left h] at hy'
   exact hf (h1 j z y hz' hy')
  ·rw [List.getElem?_append_right (by omega), hl] at hz'
   rw [List.getElem?_append_right h] at hy'
   exact hf (h2 (j - l.length) z y hz' hy')
theorem own_one {α : Type} {T : TypeId} {sz : Nat} {R : El α} {W W1 : World} {B1 lo n : Nat} {v : Value} {l : List α} {yss : List (List Value)} (hf : FlatR R) (ho : W.ownsRow lo T sz v n yss.flatten) (hn : n = l.length) (hl : yss.length = l.length)
  (hy : ∀ ys ∈ yss, ys.length = sz) (h1 : ∀ (j : Nat) (ys : List Value) (x : α), yss[j]? = some ys → l[j]? = some x → R W1 B1 (fun k => ys[k]?) x) (hmx : n ≤ maxLen) : ListOwn T sz R W lo v l :=
 ⟨yss, by rw [← hn]; exact ho, hl, by rw [← hn]; exact hmx, hy, fun j ys x a b => hf (h1 j ys x a b)⟩
theorem wpList_store_rowS {P : Program} {ops : Array Oper} {rest : List Oper} {op : Oper} {a : Act} {w : World} {Q : Exit → Act → World → Prop} (hgd : op.guard = none) (ty : TypeId) (x y : Operand) (ho : op.op = .store ty x y)
  (b : Nat) (hx : a.eval x = .pointer (some ⟨b, 0, none⟩)) {c c' : Array Value} (hy : a.eval y = .agg c') {t : TypeId} (hb : w.heap[b]? = some (.cells c t (0, 0)))
  (hi : (P.info? ty).map (·.size) = some c'.size) (hs : c.size = c'.size) (h1 : c'.all (·.oneCell') = true)
  (h : wpList P ops Q rest (a.put op.dst undef) (w.setRow b c')) : wpList P ops Q (op :: rest) a w :=
 wpList_plain hgd fun _ hK => by
  unfold Oper.wp execOp
  simp only [ho, hx, hy, Instr.storeAt, Instr.sureAddr, Sem.run_bind, Sem.run_pure, Result.andThen_ok]
  rw [run_storeVar_row w b t ty c c' hb hi hs h1]
  exact hK _ _ h

set_option maxHeartbeats 4000000 in
theorem rsections_any (v : Value) (r : Rt) (w : World) (h : RouteV w w.heap.size v r) (hl1 : r.path.length ≤ 1000) (hl2 : r.over.length ≤ 1000) :
  Calls Tryz.prog 73 #[v] w fun e w' => ∃ u, e = .returned u ∧ IntsOwn w' w.heap.size u (r.path ++ r.over) ∧ Below w.heap.size w w' := by
 obtain ⟨y3, y4, y5, rfl, hin⟩ := h
 obtain ⟨A3, c3, rfl, -, -⟩ := hin.path.slice
 obtain ⟨A4, c4, rfl, -, -⟩ := hin.over.slice
 obtain ⟨n3, hn3⟩ : ∃ n, n = r.path.length := ⟨_, rfl⟩
 obtain ⟨n4, hn4⟩ : ∃ n, n = r.over.length := ⟨_, rfl⟩
 have H3 : Hid (IntsIn w w.heap.size (.slice A3 n3 c3) r.path) := Lib.hid (by rw [hn3]; exact hin.path)
 have H4 : Hid (IntsIn w w.heap.size (.slice A4 n4 c4) r.over) := Lib.hid (by rw [hn4]; exact hin.over)
 have HN : Hid (n3 = r.path.length ∧ n4 = r.over.length) := Lib.hid ⟨hn3, hn4⟩
 have HL : Hid (n3 ≤ 1000 ∧ n4 ≤ 1000) := Lib.hid (by omega)
 rw [← hn3, ← hn4]
 obtain ⟨i0, hi, hz0, hz1, hz2⟩ := info_parts infoInt
 have I0 := Lib.hid hi
 have I1 := Lib.hid hz0
 have I2 := Lib.hid hz1
 have I3 := Lib.hid hz2
 have hq0 := heap_alloc_self w (.cells #[.int .i64 r.id, .int .i64 r.entry, .int .i64 r.exit, .slice A3 n3 c3, .slice A4 n4 c4, y5, .int .i64 r.timer] 54)
 have hqb := below_new w (.cells #[.int .i64 r.id, .int .i64 r.entry, .int .i64 r.exit, .slice A3 n3 c3, .slice A4 n4 c4, y5, .int .i64 r.timer] 54)
 clear hn3 hn4 hin hl1 hl2 hi hz0 hz1 hz2
 go_enter Tryz.func73, Tryz.ntmps73
 go_upto_region 1 with fail
 generalize w.alloc (.cells #[.int .i64 r.id, .int .i64 r.entry, .int .i64 r.exit, .slice A3 n3 c3, .slice A4 n4 c4, y5, .int .i64 r.timer] 54) = q at hq0 hqb ⊢
 have QX := Lib.hid hq0
 have QB := Lib.hid hqb
 obtain ⟨k0, k1, k2, k3, k4, k5, k6⟩ := cell7_of hq0
 obtain ⟨yss, hy1, hy2, hy3, hy4, hy5, hy6, hy7⟩ := ((H3.out.below intR hqb).more intR hqb.size).cells (by omega) intR_full intR_cells
 have Y1 := Lib.hid hy1
 have Y2 := Lib.hid hy2
 have Y3 := Lib.hid hy3
 have Y4 := Lib.hid hy4
 have Y6 := Lib.hid hy6
 have Y7 := Lib.hid hy7
 have YL : Hid (yss.flatten.length = n3 * 1) := Lib.hid (by rw [flat_length _ hy2, hy1, HN.out.1])
 clear hq0 hqb hy1 hy2 hy3 hy4 hy5 hy6 hy7
 go_upto_region 3 with ((with_reducible show wpList _ _ _ (⟨some 7, _, _, _, _, _⟩ :: _) _ _); refine wpList_append_list rfl (.tmp 4) (.tmp 6) _ rfl Tryz.underlying22 I0.out I1.out rfl I2.out (by decide) I3.out (by decide) rfl (World.ownsRow_nil q q.heap.size _ _) rfl YL.out Y4.out Y7.out Y6.out (by have := HL.out; omega) (Nat.le_refl _) ?_; intro v4 w4 hown4 hgrow4; rw [Nat.zero_add, List.nil_append] at hown4; obtain ⟨B4, d4, rfl⟩ := own_sliceN hown4; have O4 := Lib.hid hown4; have G4 : Hid (Below q.heap.size q w4) := Lib.hid ((Below.refl _ q).grown hgrow4 (Nat.le_refl _) (fun k hk => by cases hk)); clear hown4 hgrow4)
 have X4 := Lib.hid ((G4.out.block _ (heap_lt QX.out)).trans QX.out)
 have BW := Lib.hid (QB.out.trans (G4.out.mono QB.out.size))
 clear k0 k1 k2 k3 k4 k5 k6
 obtain ⟨k0, k1, k2, k3, k4, k5, k6⟩ := cell7_of X4.out
 obtain ⟨zss, hz1, hz2, hz3, hz4, hz5, hz6, hz7⟩ := ((H4.out.below intR BW.out).more intR BW.out.size).cells (by omega) intR_full intR_cells
 have Z1 := Lib.hid hz1
 have Z2 := Lib.hid hz2
 have Z3 := Lib.hid hz3
 have Z4 := Lib.hid hz4
 have Z6 := Lib.hid hz6
 have Z7 := Lib.hid hz7
 have ZL : Hid (zss.flatten.length = n4 * 1) := Lib.hid (by rw [flat_length _ hz2, hz1, HN.out.2])
 clear hz1 hz2 hz3 hz4 hz5 hz6 hz7
 go_wp2_with ((with_reducible show wpList _ _ _ (⟨some 11, _, _, _, _, _⟩ :: _) _ _); refine wpList_append_list rfl (.tmp 8) (.tmp 10) _ rfl Tryz.underlying22 I0.out I1.out rfl I2.out (by decide) I3.out (by decide) rfl O4.out rfl ZL.out Z4.out Z7.out Z6.out (by have := HL.out; omega) G4.out.size ?_; intro v5 w5 hown5 hgrow5; have O5 := Lib.hid hown5; have G5 := Lib.hid hgrow5; clear hown5 hgrow5)
 go_ret
 exact ⟨_, rfl, (own_cat (R := IntR) (sz := 1) intF O5.out (by rw [HN.out.1, HN.out.2]) Y1.out Z1.out Y2.out Z2.out Y3.out Z3.out (by have := HL.out; unfold maxLen; omega)).mono QB.out.size, BW.out.grown G5.out BW.out.size (fun k hk => Nat.le_trans QB.out.size (own_ge O4.out k hk))⟩

set_option maxHeartbeats 8000000 in
theorem rtwinroute_any (v : Value) (r : Rt) (w : World) (h : RouteV w w.heap.size v r) (hl1 : r.path.length ≤ 1000) (hl2 : r.over.length ≤ 1000) (hl3 : r.flanks.length ≤ 1000) :
  Calls Tryz.prog 39 #[v] w fun e w' => ∃ u3 u4 u5, e = .returned (.agg #[.int .i64 r.id, .int .i64 r.entry, .int .i64 r.exit, u3, u4, u5, .int .i64 r.timer]) ∧ RtOwn w' w.heap.size u3 u4 u5 r ∧ Below w.heap.size w w' := by
 obtain ⟨y3, y4, y5, rfl, hin⟩ := h
 obtain ⟨A3, c3, rfl, -, -⟩ := hin.path.slice
 obtain ⟨A4, c4, rfl, -, -⟩ := hin.over.slice
 obtain ⟨A5, c5, rfl, -, -⟩ := hin.flanks.slice
 obtain ⟨n3, hn3⟩ : ∃ n, n = r.path.length := ⟨_, rfl⟩
 obtain ⟨n4, hn4⟩ : ∃ n, n = r.over.length := ⟨_, rfl⟩
 obtain ⟨n5, hn5⟩ : ∃ n, n = r.flanks.length := ⟨_, rfl⟩
 have H3 : Hid (IntsIn w w.heap.size (.slice A3 n3 c3) r.path) := Lib.hid (by rw [hn3]; exact hin.path)
 have H4 : Hid (IntsIn w w.heap.size (.slice A4 n4 c4) r.over) := Lib.hid (by rw [hn4]; exact hin.over)
 have H5 : Hid (JoinsIn w w.heap.size (.slice A5 n5 c5) r.flanks) := Lib.hid (by rw [hn5]; exact hin.flanks)
 have HN : Hid (n3 = r.path.length ∧ n4 = r.over.length ∧ n5 = r.flanks.length) := Lib.hid ⟨hn3, hn4, hn5⟩
 have HL : Hid (n3 ≤ 1000 ∧ n4 ≤ 1000 ∧ n5 ≤ 1000) := Lib.hid (by omega)
 rw [← hn3, ← hn4, ← hn5]
 obtain ⟨i0, hi, hz0, hz1, hz2⟩ := info_parts infoInt
 have I0 := Lib.hid hi
 have I1 := Lib.hid hz0
 have I2 := Lib.hid hz1
 have I3 := Lib.hid hz2
 clear hi hz0 hz1 hz2
 obtain ⟨j0, hi, hz0, hz1, hz2⟩ := info_parts infoFlank
 have J0 := Lib.hid hi
 have J1 := Lib.hid hz0
 have J2 := Lib.hid hz1
 have J3 := Lib.hid hz2
 clear hi hz0 hz1 hz2
 have hq := boxes3 w (.cells #[.int .i64 r.id, .int .i64 r.entry, .int .i64 r.exit, .slice A3 n3 c3, .slice A4 n4 c4, .slice A5 n5 c5, .int .i64 r.timer] 54) (.cells #[.int .i64 0, .int .i64 0, .int .i64 0, .slice none 0 0, .slice none 0 0, .slice none 0 0, .int .i64 0] 54) (.cells #[.int .i64 r.id, .int .i64 r.entry, .int .i64 r.exit, .slice none 0 0, .slice none 0 0, .slice none 0 0, .int .i64 r.timer] 54)
 have hk1 := cell7_of (heap_alloc_self w (.cells #[.int .i64 r.id, .int .i64 r.entry, .int .i64 r.exit, .slice A3 n3 c3, .slice A4 n4 c4, .slice A5 n5 c5, .int .i64 r.timer] 54))
 clear hn3 hn4 hn5 hin hl1 hl2 hl3
 obtain ⟨q, hq', q0, q1, q2, qs, qb⟩ := hq
 go_enter Tryz.func39, Tryz.ntmps39
 go_upto_region 2 with fail
 rw [← hq']
 have X1 := Lib.hid q0
 have X2 := Lib.hid q1
 have X3 := Lib.hid q2
 have QS := Lib.hid qs
 have QB := Lib.hid qb
 clear hk1 hq' q0 q1 q2 qs qb

 obtain ⟨k0, k1, k2, k3, k4, k5, k6⟩ := cell7_of X1.out
 obtain ⟨m0, m1, m2, m3, m4, m5, m6⟩ := cell7_of X3.out
 obtain ⟨yss, hy1, hy2, hy3, hy4, hy5, hy6, hy7⟩ := ((H3.out.below intR QB.out).more intR QB.out.size).cells (by omega) intR_full intR_cells
 have Y1 := Lib.hid hy1
 have Y2 := Lib.hid hy2
 have Y3 := Lib.hid hy3
 have Y4 := Lib.hid hy4
 have Y6 := Lib.hid hy6
 have Y7 := Lib.hid hy7
 have YL : Hid (yss.flatten.length = n3 * 1) := Lib.hid (by rw [flat_length _ hy2, hy1, HN.out.1])
 clear hy1 hy2 hy3 hy4 hy5 hy6 hy7
 go_upto_region 3 with ((with_reducible show wpList _ _ _ (⟨some 17, _, _, _, _, _⟩ :: _) _ _); refine wpList_append_list rfl (.tmp 14) (.tmp 16) _ rfl Tryz.underlying22 I0.out I1.out rfl I2.out (by decide) I3.out (by decide) rfl (World.ownsRow_nil q q.heap.size _ _) rfl YL.out Y4.out Y7.out Y6.out (by have := HL.out; omega) (Nat.le_refl _) ?_; intro v3 w3 hown3 hgrow3; rw [Nat.zero_add, List.nil_append] at hown3; obtain ⟨B3, d3, rfl⟩ := own_sliceN hown3; have O3 := Lib.hid (own_one (R := IntR) (sz := 1) intF hown3 HN.out.1 Y1.out Y2.out Y3.out (by have := HL.out; unfold maxLen; omega)); have G3 : Hid (Below q.heap.size q w3) := Lib.hid ((Below.refl _ q).grown hgrow3 (Nat.le_refl _) (fun k hk => by cases hk)); clear hown3 hgrow3; have Z3 := Lib.hid ((G3.out.block _ (heap_lt X3.out)).trans X3.out); have z3 := frozen2_of Z3.out 3; obtain ⟨e0, e1, e2, e3, e4, e5, e6⟩ := cell7_of Z3.out)
 clear k0 k1 k2 k3 k4 k5 k6 m0 m1 m2 m3 m4 m5 m6 e0 e1 e2 e3 e4 e5 e6 z3 Y1 Y2 Y3 Y4 Y6 Y7 YL
 have hg3 := grown_setK w3 (w.heap.size + 2) 3 (.slice B3 n3 d3)
 have t3 : (w3.setCell ⟨w.heap.size + 2, 3, none⟩ (.slice B3 n3 d3)).heap[w.heap.size + 2]? = some (.cells #[.int .i64 r.id, .int .i64 r.entry, .int .i64 r.exit, .slice B3 n3 d3, .slice none 0 0, .slice none 0 0, .int .i64 r.timer] 54 (0, 0)) := heap_setK (k := 3) Z3.out _
 have t1 := (heap_setFar w3 (w.heap.size + 2) 3 w.heap.size (.slice B3 n3 d3) (by omega)).trans ((G3.out.block _ (heap_lt X1.out)).trans X1.out)
 have t2 := (heap_setFar w3 (w.heap.size + 2) 3 (w.heap.size + 1) (.slice B3 n3 d3) (by omega)).trans ((G3.out.block _ (heap_lt X2.out)).trans X2.out)
 have tb := below_set (QB.out.trans (G3.out.mono QB.out.size)) (show w.heap.size ≤ w.heap.size + 2 by omega) 3 (.slice B3 n3 d3)
 have ts : w.heap.size + 3 ≤ (w3.setCell ⟨w.heap.size + 2, 3, none⟩ (.slice B3 n3 d3)).heap.size := by have := G3.out.size; have := hg3.size; have := QS.out; omega
 have tO3 : ListOwn 3 1 IntR (w3.setCell ⟨w.heap.size + 2, 3, none⟩ (.slice B3 n3 d3)) (w.heap.size + 3) (.slice B3 n3 d3) r.path := own_kept (R := IntR) intF (O3.out.mono (by have := QS.out; omega)) hg3 (fun k hk => by have := own_lo O3.out k hk; have := QS.out; omega)
 clear QS QB X1 X2 X3 Z3 G3 hg3 O3
 generalize w3.setCell ⟨w.heap.size + 2, 3, none⟩ (.slice B3 n3 d3) = q3 at t1 t2 t3 tb ts tO3 ⊢
 have X1 := Lib.hid t1
 have X2 := Lib.hid t2
 have X3 := Lib.hid t3
 have QB := Lib.hid tb
 have QS := Lib.hid ts
 have O3 := Lib.hid tO3
 clear t1 t2 t3 tb ts tO3
 obtain ⟨k0, k1, k2, k3, k4, k5, k6⟩ := cell7_of X1.out
 obtain ⟨m0, m1, m2, m3, m4, m5, m6⟩ := cell7_of X3.out
 obtain ⟨yss, hy1, hy2, hy3, hy4, hy5, hy6, hy7⟩ := ((H4.out.below intR QB.out).more intR QB.out.size).cells (by omega) intR_full intR_cells
 have Y1 := Lib.hid hy1
 have Y2 := Lib.hid hy2
 have Y3 := Lib.hid hy3
 have Y4 := Lib.hid hy4
 have Y6 := Lib.hid hy6
 have Y7 := Lib.hid hy7
 have YL : Hid (yss.flatten.length = n4 * 1) := Lib.hid (by rw [flat_length _ hy2, hy1, HN.out.2.1])
 clear hy1 hy2 hy3 hy4 hy5 hy6 hy7
 go_upto_region 4 with ((with_reducible show wpList _ _ _ (⟨some 23, _, _, _, _, _⟩ :: _) _ _); refine wpList_append_list rfl (.tmp 20) (.tmp 22) _ rfl Tryz.underlying22 I0.out I1.out rfl I2.out (by decide) I3.out (by decide) rfl (World.ownsRow_nil q3 q3.heap.size _ _) rfl YL.out Y4.out Y7.out Y6.out (by have := HL.out; omega) (Nat.le_refl _) ?_; intro v4 w4 hown4 hgrow4; rw [Nat.zero_add, List.nil_append] at hown4; obtain ⟨B4, d4, rfl⟩ := own_sliceN hown4; have O4 := Lib.hid (own_one (R := IntR) (sz := 1) intF hown4 HN.out.2.1 Y1.out Y2.out Y3.out (by have := HL.out; unfold maxLen; omega)); have G4 : Hid (Below q3.heap.size q3 w4) := Lib.hid ((Below.refl _ q3).grown hgrow4 (Nat.le_refl _) (fun k hk => by cases hk)); clear hown4 hgrow4; have Z3 := Lib.hid ((G4.out.block _ (heap_lt X3.out)).trans X3.out); have z4 := frozen2_of Z3.out 4; obtain ⟨e0, e1, e2, e3, e4, e5, e6⟩ := cell7_of Z3.out)
 clear k0 k1 k2 k3 k4 k5 k6 m0 m1 m2 m3 m4 m5 m6 e0 e1 e2 e3 e4 e5 e6 z4 Y1 Y2 Y3 Y4 Y6 Y7 YL
 have hg4 := grown_setK w4 (w.heap.size + 2) 4 (.slice B4 n4 d4)
 have t3 : (w4.setCell ⟨w.heap.size + 2, 4, none⟩ (.slice B4 n4 d4)).heap[w.heap.size + 2]? = some (.cells #[.int .i64 r.id, .int .i64 r.entry, .int .i64 r.exit, .slice B3 n3 d3, .slice B4 n4 d4, .slice none 0 0, .int .i64 r.timer] 54 (0, 0)) := heap_setK (k := 4) Z3.out _
 have t1 := (heap_setFar w4 (w.heap.size + 2) 4 w.heap.size (.slice B4 n4 d4) (by omega)).trans ((G4.out.block _ (heap_lt X1.out)).trans X1.out)
 have t2 := (heap_setFar w4 (w.heap.size + 2) 4 (w.heap.size + 1) (.slice B4 n4 d4) (by omega)).trans ((G4.out.block _ (heap_lt X2.out)).trans X2.out)
 have tb := below_set (QB.out.trans (G4.out.mono QB.out.size)) (show w.heap.size ≤ w.heap.size + 2 by omega) 4 (.slice B4 n4 d4)
 have ts : w.heap.size + 3 ≤ (w4.setCell ⟨w.heap.size + 2, 4, none⟩ (.slice B4 n4 d4)).heap.size := by have := G4.out.size; have := hg4.size; have := QS.out; omega
 have tO4 : ListOwn 3 1 IntR (w4.setCell ⟨w.heap.size + 2, 4, none⟩ (.slice B4 n4 d4)) (w.heap.size + 3) (.slice B4 n4 d4) r.over := own_kept (R := IntR) intF (O4.out.mono (by have := QS.out; omega)) hg4 (fun k hk => by have := own_lo O4.out k hk; have := QS.out; omega)
 have tO3 := own_kept (R := IntR) intF (O3.out.below intR G4.out) hg4 (fun k hk => by have := own_lo O3.out k hk; omega)
 clear QS QB X1 X2 X3 Z3 G4 hg4 O3 O4
 generalize w4.setCell ⟨w.heap.size + 2, 4, none⟩ (.slice B4 n4 d4) = q4 at t1 t2 t3 tb ts tO3 tO4 ⊢
 have X1 := Lib.hid t1
 have X2 := Lib.hid t2
 have X3 := Lib.hid t3
 have QB := Lib.hid tb
 have QS := Lib.hid ts
 have O3 := Lib.hid tO3
 have O4 := Lib.hid tO4
 clear t1 t2 t3 tb ts tO3 tO4
 obtain ⟨k0, k1, k2, k3, k4, k5, k6⟩ := cell7_of X1.out
 obtain ⟨m0, m1, m2, m3, m4, m5, m6⟩ := cell7_of X3.out
 obtain ⟨yss, hy1, hy2, hy3, hy4, hy5, hy6, hy7⟩ := ((H5.out.below joinR QB.out).more joinR QB.out.size).cells (by omega) joinR_full joinR_cells
 have Y1 := Lib.hid hy1
 have Y2 := Lib.hid hy2
 have Y3 := Lib.hid hy3
 have Y4 := Lib.hid hy4
 have Y6 := Lib.hid hy6
 have Y7 := Lib.hid hy7
 have YL : Hid (yss.flatten.length = n5 * 2) := Lib.hid (by rw [flat_length _ hy2, hy1, HN.out.2.2])
 clear hy1 hy2 hy3 hy4 hy5 hy6 hy7
 go_upto_region 5 with ((with_reducible show wpList _ _ _ (⟨some 29, _, _, _, _, _⟩ :: _) _ _); refine wpList_append_list rfl (.tmp 26) (.tmp 28) _ rfl Tryz.underlying52 J0.out J1.out rfl J2.out (by decide) J3.out (by decide) rfl (World.ownsRow_nil q4 q4.heap.size _ _) rfl YL.out Y4.out Y7.out Y6.out (by have := HL.out; omega) (Nat.le_refl _) ?_; intro v5 w5 hown5 hgrow5; rw [Nat.zero_add, List.nil_append] at hown5; obtain ⟨B5, d5, rfl⟩ := own_sliceN hown5; have O5 := Lib.hid (own_one (R := JoinR) (sz := 2) joinF hown5 HN.out.2.2 Y1.out Y2.out Y3.out (by have := HL.out; unfold maxLen; omega)); have G5 : Hid (Below q4.heap.size q4 w5) := Lib.hid ((Below.refl _ q4).grown hgrow5 (Nat.le_refl _) (fun k hk => by cases hk)); clear hown5 hgrow5; have Z3 := Lib.hid ((G5.out.block _ (heap_lt X3.out)).trans X3.out); have z5 := frozen2_of Z3.out 5; obtain ⟨e0, e1, e2, e3, e4, e5, e6⟩ := cell7_of Z3.out)
 clear k0 k1 k2 k3 k4 k5 k6 m0 m1 m2 m3 m4 m5 m6 e0 e1 e2 e3 e4 e5 e6 z5 Y1 Y2 Y3 Y4 Y6 Y7 YL
 have hg5 := grown_setK w5 (w.heap.size + 2) 5 (.slice B5 n5 d5)
 have t3 : (w5.setCell ⟨w.heap.size + 2, 5, none⟩ (.slice B5 n5 d5)).heap[w.heap.size + 2]? = some (.cells #[.int .i64 r.id, .int .i64 r.entry, .int .i64 r.exit, .slice B3 n3 d3, .slice B4 n4 d4, .slice B5 n5 d5, .int .i64 r.timer] 54 (0, 0)) := heap_setK (k := 5) Z3.out _
 have t1 := (heap_setFar w5 (w.heap.size + 2) 5 w.heap.size (.slice B5 n5 d5) (by omega)).trans ((G5.out.block _ (heap_lt X1.out)).trans X1.out)
 have t2 := (heap_setFar w5 (w.heap.size + 2) 5 (w.heap.size + 1) (.slice B5 n5 d5) (by omega)).trans ((G5.out.block _ (heap_lt X2.out)).trans X2.out)
 have tb := below_set (QB.out.trans (G5.out.mono QB.out.size)) (show w.heap.size ≤ w.heap.size + 2 by omega) 5 (.slice B5 n5 d5)
 have ts : w.heap.size + 3 ≤ (w5.setCell ⟨w.heap.size + 2, 5, none⟩ (.slice B5 n5 d5)).heap.size := by have := G5.out.size; have := hg5.size; have := QS.out; omega
 have tO5 : ListOwn 64 2 JoinR (w5.setCell ⟨w.heap.size + 2, 5, none⟩ (.slice B5 n5 d5)) (w.heap.size + 3) (.slice B5 n5 d5) r.flanks := own_kept (R := JoinR) joinF (O5.out.mono (by have := QS.out; omega)) hg5 (fun k hk => by have := own_lo O5.out k hk; have := QS.out; omega)
 have tO3 := own_kept (R := IntR) intF (O3.out.below intR G5.out) hg5 (fun k hk => by have := own_lo O3.out k hk; omega)
 have tO4 := own_kept (R := IntR) intF (O4.out.below intR G5.out) hg5 (fun k hk => by have := own_lo O4.out k hk; omega)
 clear QS QB X1 X2 X3 Z3 G5 hg5 O3 O4 O5
 generalize w5.setCell ⟨w.heap.size + 2, 5, none⟩ (.slice B5 n5 d5) = q5 at t1 t2 t3 tb ts tO3 tO4 tO5 ⊢
 have X1 := Lib.hid t1
 have X2 := Lib.hid t2
 have X3 := Lib.hid t3
 have QB := Lib.hid tb
 have QS := Lib.hid ts
 have O3 := Lib.hid tO3
 have O4 := Lib.hid tO4
 have O5 := Lib.hid tO5
 clear t1 t2 t3 tb ts tO3 tO4 tO5
 obtain ⟨m0, m1, m2, m3, m4, m5, m6⟩ := cell7_of X3.out
 go_wp2_with ((with_reducible show wpList _ _ _ (⟨none, _, _, _, _, _⟩ :: _) _ _); refine wpList_store_rowS rfl _ (.tmp 2) (.tmp 31) rfl (w.heap.size + 1) rfl (c' := #[.int .i64 r.id, .int .i64 r.entry, .int .i64 r.exit, .slice B3 n3 d3, .slice B4 n4 d4, .slice B5 n5 d5, .int .i64 r.timer]) rfl X2.out infoRoute7 rfl (by simp [Value.oneCell']) ?_)
 refine bodyPost_ret (results_cell_row rfl _ _ (w.heap.size + 1) 54 #[.int .i64 r.id, .int .i64 r.entry, .int .i64 r.exit, .slice B3 n3 d3, .slice B4 n4 d4, .slice B5 n5 d5, .int .i64 r.timer] (0, 0) _ rfl (setRow_heap _ _ _ _ _ _ X2.out) Tryz.underlying54 rfl infoRoute7) rfl ⟨_, _, _, rfl, ?_, below_setRow QB.out (Nat.le_succ _) _⟩
 have hg := grownBy_setRow q5 (w.heap.size + 1) #[.int .i64 r.id, .int .i64 r.entry, .int .i64 r.exit, .slice B3 n3 d3, .slice B4 n4 d4, .slice B5 n5 d5, .int .i64 r.timer]
 exact ⟨(own_kept (R := IntR) intF O3.out hg (fun k hk => by have := own_lo O3.out k hk; omega)).mono (by omega), (own_kept (R := IntR) intF O4.out hg (fun k hk => by have := own_lo O4.out k hk; omega)).mono (by omega), (own_kept (R := JoinR) joinF O5.out hg (fun k hk => by have := own_lo O5.out k hk; omega)).mono (by omega)⟩
end Go.Proofs.YtneeocnjfnneoaaGreat
