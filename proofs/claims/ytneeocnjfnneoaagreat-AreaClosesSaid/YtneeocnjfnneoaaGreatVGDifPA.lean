/-
 Maps whose keys are an element's kind and number, out of which nothing is ever taken: what they hold, look-ups, stores, walks over them.
 Conditions: none.
-/
import Derived.Maps.OwnIn
import Derived.Test.YtneeocnjfnneoaaGreatVGDifM
import Derived.RangeFuncWrites
import Derived.Test.YtneeocnjfnneoaaGreatVGTrkPA
import Derived.Shelf.SlSortCmp.WholeK
import Derived.Test.YtneeocnjfnneoaaGreatVGPlnRefD
set_option linter.unusedVariables false
set_option linter.unusedSimpArgs false
set_option maxRecDepth 100000
namespace Go.Proofs.YtneeocnjfnneoaaGreat
open Go.RowKit

abbrev K13 := Int × Int
def keyV (k : K13) : Value := .agg #[.int .u8 k.1, .int .i64 k.2]
abbrev Ents := List (K13 × Value)
def entsFrom : Nat → Ents → List MapEntry
 | _, [] => []
 | n, p :: r => ⟨keyV p.1, p.2, n⟩ :: entsFrom (n + 1) r
def ents (es : Ents) : Array MapEntry := (entsFrom 0 es).toArray
theorem entsFrom_len : ∀ (es : Ents) (n : Nat), (entsFrom n es).length = es.length
 | [], _ => rfl
 | p :: r, n => by simp [entsFrom, entsFrom_len r (n + 1)]
theorem ents_size (es : Ents) : (ents es).size = es.length := by simp [ents, entsFrom_len]
theorem entsFrom_append : ∀ (a b : Ents) (n : Nat), entsFrom n (a ++ b) = entsFrom n a ++ entsFrom (n + a.length) b
 | [], b, n => by simp [entsFrom]
 | p :: r, b, n => by
  simp only [List.cons_append, entsFrom, entsFrom_append r b (n + 1), List.length_cons]
  rw [show n + 1 + r.length = n + (r.length + 1) by omega]
theorem entsFrom_get : ∀ (es : Ents) (n i : Nat), (entsFrom n es)[i]? = es[i]?.map fun p => ⟨keyV p.1, p.2, n + i⟩
 | [], n, i => by simp [entsFrom]
 | p :: r, n, 0 => by simp [entsFrom]
 | p :: r, n, i + 1 => by
  simp only [entsFrom, List.getElem?_cons_succ, entsFrom_get r (n + 1) i]
  rw [show n + 1 + i = n + (i + 1) by omega]
theorem entsFrom_set : ∀ (es : Ents) (n i : Nat) (x : K13) (v : Value), entsFrom n (es.set i (x, v)) = (entsFrom n es).set i ⟨keyV x, v, n + i⟩
 | [], n, i, x, v => by simp [entsFrom]
 | p :: r, n, 0, x, v => by simp [entsFrom]
 | p :: r, n, i + 1, x, v => by
  simp only [List.set_cons_succ, entsFrom, entsFrom_set r (n + 1) i]
  rw [show n + 1 + i = n + (i + 1) by omega]
theorem ents_mem {es : Ents} {e : MapEntry} : e ∈ (ents es).toList ↔ ∃ i p, es[i]? = some p ∧ e = ⟨keyV p.1, p.2, i⟩ := by
 show e ∈ entsFrom 0 es ↔ _
 rw [List.mem_iff_getElem?]
 constructor
 ·rintro ⟨i, h⟩
  rw [entsFrom_get] at h
  cases hp : es[i]? with
  | none => rw [hp] at h; cases h
  | some p => rw [hp] at h; cases h; exact ⟨i, p, hp, by simp⟩
 ·rintro ⟨i, p, hp, rfl⟩
  exact ⟨i, by rw [entsFrom_get, hp]; simp⟩
theorem ents_born {es : Ents} : ∀ x ∈ (ents es).toList, x.born < es.length := fun x hx => by
 obtain ⟨i, p, hp, rfl⟩ := ents_mem.1 hx
 exact (List.getElem?_eq_some_iff.1 hp).1
theorem entsFrom_ge : ∀ (es : Ents) (n : Nat), ∀ m ∈ (entsFrom n es).map (·.born), n ≤ m
 | [], _, m, h => by simp [entsFrom] at h
 | p :: r, n, m, h => by
  simp only [entsFrom, List.map_cons, List.mem_cons] at h
  rcases h with rfl | h
  ·exact Nat.le_refl _
  ·exact Nat.le_trans (Nat.le_succ n) (entsFrom_ge r (n + 1) m h)
theorem entsFrom_nodup : ∀ (es : Ents) (n : Nat), ((entsFrom n es).map (·.born)).Nodup
 | [], _ => by simp [entsFrom]
 | p :: r, n => by
  simp only [entsFrom, List.map_cons, List.nodup_cons]
  exact ⟨fun h => absurd (entsFrom_ge r (n + 1) n h) (by omega), entsFrom_nodup r (n + 1)⟩

/-! ### What a map holds -/
def look : Ents → K13 → Option Value
 | [], _ => none
 | p :: r, x => if x = p.1 then some p.2 else look r x
def idx13 (x : K13) : Ents → Nat → Option (Nat × Value)
 | [], _ => none
 | p :: r, i => if x = p.1 then some (i, p.2) else idx13 x r (i + 1)
theorem idx_look (x : K13) : ∀ (es : Ents) (n : Nat), (idx13 x es n).map (·.2) = look es x
 | [], n => rfl
 | p :: r, n => by
  unfold idx13 look
  split
  ·rfl
  ·exact idx_look x r (n + 1)
theorem idx_at (x : K13) : ∀ (es : Ents) (n : Nat) (i : Nat) (v : Value), idx13 x es n = some (i, v) → n ≤ i ∧ es[i - n]? = some (x, v)
 | [], n, i, v, h => by cases h
 | p :: r, n, i, v, h => by
  unfold idx13 at h
  split at h
  ·rename_i e
   cases h
   refine ⟨Nat.le_refl _, ?_⟩
   rw [Nat.sub_self]
   obtain ⟨k, u⟩ := p
   cases e
   rfl
  ·obtain ⟨h1, h2⟩ := idx_at x r (n + 1) i v h
   refine ⟨by omega, ?_⟩
   rw [show i - n = i - (n + 1) + 1 by omega]
   exact h2
theorem idx_none {x : K13} : ∀ {es : Ents} {n : Nat}, idx13 x es n = none → x ∉ es.map (·.1)
 | [], n, _ => by simp
 | p :: r, n, h => by
  unfold idx13 at h
  split at h
  ·cases h
  ·rename_i e
   simp only [List.map_cons, List.mem_cons, not_or]
   exact ⟨e, idx_none h⟩
theorem look_none {x : K13} : ∀ {es : Ents}, look es x = none ↔ x ∉ es.map (·.1)
 | [] => by simp [look]
 | p :: r => by
  unfold look
  by_cases e : x = p.1
  ·rw [if_pos e]; simp [e]
  ·rw [if_neg e, look_none (es := r)]; simp [e]
theorem look_some {x : K13} {v : Value} : ∀ {es : Ents}, look es x = some v → (x, v) ∈ es
 | [], h => by cases h
 | p :: r, h => by
  unfold look at h
  split at h
  ·rename_i e
   cases h
   obtain ⟨k, u⟩ := p
   cases e
   exact List.mem_cons_self ..
  ·exact List.mem_cons_of_mem _ (look_some h)
def KeysNd (es : Ents) : Prop := (es.map (·.1)).Nodup
theorem look_mem {x : K13} {v : Value} : ∀ {es : Ents}, KeysNd es → (x, v) ∈ es → look es x = some v
 | p :: r, hn, h => by
  unfold KeysNd at hn
  rw [List.map_cons, List.nodup_cons] at hn
  unfold look
  rcases List.mem_cons.1 h with rfl | h
  ·rw [if_pos rfl]
  ·rw [if_neg fun e => hn.1 (by rw [← e]; exact List.mem_map.2 ⟨_, h, rfl⟩)]
   exact look_mem hn.2 h
/-- A store. -/
def putE (es : Ents) (x : K13) (v : Value) : Ents := match idx13 x es 0 with
 | some (i, _) => es.set i (x, v)
 | none => es ++ [(x, v)]
theorem look_set {x : K13} (v : Value) : ∀ (es : Ents) (i : Nat) (u : Value), KeysNd es → es[i]? = some (x, u) → ∀ y, look (es.set i (x, v)) y = if y = x then some v else look es y
 | [], i, u, hn, h, y => by simp at h
 | p :: r, 0, u, hn, h, y => by
  simp at h
  subst h
  simp only [List.set_cons_zero, look]
  split <;> rfl
 | p :: r, i + 1, u, hn, h, y => by
  simp only [List.getElem?_cons_succ] at h
  unfold KeysNd at hn
  rw [List.map_cons, List.nodup_cons] at hn
  simp only [List.set_cons_succ, look]
  rw [look_set v r i u hn.2 h y]
  by_cases e : y = p.1
  ·rw [if_pos e, if_pos e, if_neg]
   intro e2
   exact hn.1 (by rw [← e, e2]; exact List.mem_map.2 ⟨_, List.mem_iff_getElem?.2 ⟨i, h⟩, rfl⟩)
  ·rw [if_neg e, if_neg e]
theorem keys_set {x : K13} (v : Value) : ∀ (es : Ents) (i : Nat) (u : Value), es[i]? = some (x, u) → (es.set i (x, v)).map (·.1) = es.map (·.1)
 | [], i, u, h => by simp at h
 | p :: r, 0, u, h => by simp at h; subst h; rfl
 | p :: r, i + 1, u, h => by
  simp only [List.getElem?_cons_succ] at h
  simp only [List.set_cons_succ, List.map_cons, keys_set v r i u h]
theorem look_append (x : K13) (v : Value) (y : K13) : ∀ (es : Ents), x ∉ es.map (·.1) → look (es ++ [(x, v)]) y = if y = x then some v else look es y
 | [], _ => by
  simp only [List.nil_append, look]
 | p :: r, h => by
  simp only [List.map_cons, List.mem_cons, not_or] at h
  simp only [List.cons_append, look, look_append x v y r h.2]
  by_cases e : y = p.1
  ·rw [if_pos e, if_pos e, if_neg fun e2 => h.1 (e2.symm.trans e)]
  ·rw [if_neg e, if_neg e]
theorem look_put {es : Ents} (hn : KeysNd es) (x : K13) (v : Value) (y : K13) : look (putE es x v) y = if y = x then some v else look es y := by
 unfold putE
 cases h : idx13 x es 0 with
 | some q =>
  obtain ⟨i, u⟩ := q
  exact look_set v es i u hn (by simpa using (idx_at x es 0 i u h).2) y
 | none => exact look_append x v y es (idx_none h)
theorem put_nd {es : Ents} (hn : KeysNd es) (x : K13) (v : Value) : KeysNd (putE es x v) := by
 unfold putE
 cases h : idx13 x es 0 with
 | some q =>
  obtain ⟨i, u⟩ := q
  unfold KeysNd
  rw [keys_set v es i u (by simpa using (idx_at x es 0 i u h).2)]
  exact hn
 | none =>
  have := idx_none h
  unfold KeysNd at hn ⊢
  rw [List.map_append, List.nodup_append]
  refine ⟨hn, by simp, ?_⟩
  intro a ha b hb
  simp at hb
  subst hb
  exact fun e => this (e ▸ ha)
/-- What is put into a map comes out of what was there and what is put. -/
theorem put_mem {es : Ents} {x : K13} {v : Value} {p : K13 × Value} (h : p ∈ putE es x v) : p = (x, v) ∨ p ∈ es := by
 unfold putE at h
 split at h
 ·rcases List.mem_or_eq_of_mem_set h with h | h
  ·exact .inr h
  ·exact .inl h
 ·rcases List.mem_append.1 h with h | h
  ·exact .inr h
  ·exact .inl (List.mem_singleton.1 h)

/-- Block b is a map that holds es. -/
def MapB (W : World) (b : Nat) (es : Ents) : Prop := W.heap[b]? = some (.map (ents es) es.length)
theorem MapB.lt {W : World} {b : Nat} {es : Ents} (h : MapB W b es) : b < W.heap.size := (Array.getElem?_eq_some_iff.1 h).1
theorem MapB.below {W W' : World} {b n : Nat} {es : Ents} (h : MapB W b es) (hb : Below n W W') (hn : b < n) : MapB W' b es := (hb.block b hn).trans h
theorem MapB.new (W : World) : MapB (W.alloc (.map #[] 0)) W.heap.size [] := (MapKept.heap_alloc W _).1

/-- What is asked of the key's type. -/
structure KeyT (P : Program) (k : TypeId) : Prop where
 desc : ∃ fs, P.underlying k = some (.struct fs)
 eq : ∀ (x y : K13) (w : World), (Op.equal k (keyV x) (keyV y)).run P w = .ok (decide (x = y)) w
 check : ∀ (em : Bool) (x : K13) (w : World), (Instr.checkKey em 10000 k (keyV x)).run P w = .ok () w

section
variable {P : Program} {k : TypeId}
theorem run_findAsking13 (K : KeyT P k) (x : K13) (w : World) : ∀ (es : Ents) (n i : Nat), (Instr.findAsking k (keyV x) (entsFrom n es) i).run P w = .ok (idx13 x es i) w
 | [], n, i => by simp [entsFrom, Instr.findAsking, idx13]
 | p :: r, n, i => by
  simp only [entsFrom, Instr.findAsking, Sem.run_bind, K.eq, Result.andThen_ok, idx13]
  by_cases e : x = p.1
  ·simp [e]
  ·simp [e, run_findAsking13 K x w r (n + 1) (i + 1)]
theorem run_findKey13 (K : KeyT P k) (x : K13) (es : Ents) (w : World) : (Instr.findKey k (keyV x) (entsFrom 0 es)).run P w = .ok (idx13 x es 0) w := by
 obtain ⟨fs, hfs⟩ := K.desc
 simp only [Instr.findKey, Sem.run_bind, run_underlying hfs, Result.andThen_ok]
 cases es with
 | nil => simp [entsFrom, Instr.findNow, idx13]
 | cons p r =>
  have h := run_findAsking13 K x w (p :: r) 0 0
  simp only [entsFrom] at h ⊢
  simp only [Instr.findNow, Instr.sameNow]
  exact h
theorem run_keyStays13 (x : K13) (w : World) : (Instr.keyThatStays (keyV x) (keyV x)).run P w = .ok (keyV x) w := by
 have h : Instr.sameBits 10000 (keyV x) (keyV x) = true := by
  unfold keyV
  rw [show (10000 : Nat) = 9998 + 1 + 1 from rfl]
  simp [Instr.sameBits]
 simp [Instr.keyThatStays, h]
theorem run_lookup13 (K : KeyT P k) {t e : TypeId} (ht : P.underlying t = some (.map k e)) {w : World} {b : Nat} {es : Ents} (hb : MapB w b es) (x : K13) {z : Value} (hz : (zeroValue e).run P w = .ok z w) (ok : Bool) :
  (Instr.lookup t (.map (some b)) (keyV x) ok).run P w = .ok (if ok then .tuple #[(look es x).getD z, .bool (look es x).isSome] else (look es x).getD z) w := by
 have hb' : w.heap[b]? = some (.map (ents es) es.length) := hb
 have hl := idx_look x es 0
 have hf := run_findKey13 K x es w
 simp only [Instr.lookup, Sem.run_bind, run_underlying ht, Result.andThen_ok, MapKept.run_getObj_map hb', Sem.run_pure, K.check]
 rw [show (ents es).toList = entsFrom 0 es from rfl, hf]
 rw [← hl]
 cases idx13 x es 0 with
 | none => cases ok <;> simp [hz]
 | some q => cases ok <;> simp
theorem run_update13 (K : KeyT P k) {t e : TypeId} (ht : P.underlying t = some (.map k e)) {w : World} {b : Nat} {es : Ents} (hb : MapB w b es) (x : K13) (v : Value) :
  ∃ w', (Instr.mapUpdate t (.map (some b)) (keyV x) v).run P w = .ok () w' ∧ MapB w' b (putE es x v) ∧ w.grownBy w' (some b) ∧ w'.heap.size = w.heap.size := by
 have hb' : w.heap[b]? = some (.map (ents es) es.length) := hb
 have hf := run_findKey13 K x es w
 have hst : ∀ o', (setObj b o').run P w = .ok () (ChangeMaps.setBlock w b o') := fun o' => by simp [setObj, Sem.run, hb', ChangeMaps.setBlock]
 have hg : ∀ o', w.grownBy (ChangeMaps.setBlock w b o') (some b) := fun o' => ⟨rfl, rfl, rfl, by simp [ChangeMaps.setBlock], fun i hi hne => ChangeMaps.heap_setBlock_other hb' o' fun e => hne (by rw [e])⟩
 cases hi : idx13 x es 0 with
 | none =>
  refine ⟨ChangeMaps.setBlock w b (.map (ents (putE es x v)) (putE es x v).length), ?_, ChangeMaps.heap_setBlock_same hb' _, hg _, by simp [ChangeMaps.setBlock]⟩
  have e1 : putE es x v = es ++ [(x, v)] := by unfold putE; rw [hi]
  have e2 : ents (putE es x v) = (ents es).push ⟨keyV x, v, es.length⟩ := by
   rw [e1]
   simp [ents, entsFrom_append, entsFrom]
  simp only [Instr.mapUpdate, Sem.run_bind, run_underlying ht, Result.andThen_ok, MapKept.run_getObj_map hb', K.check]
  rw [show (ents es).toList = entsFrom 0 es from rfl, hf, hi]
  simp only [Result.andThen_ok, hst]
  rw [e2, e1]
  simp
 | some q =>
  obtain ⟨i, u⟩ := q
  have hat := (idx_at x es 0 i u hi).2
  rw [Nat.sub_zero] at hat
  refine ⟨ChangeMaps.setBlock w b (.map (ents (putE es x v)) (putE es x v).length), ?_, ChangeMaps.heap_setBlock_same hb' _, hg _, by simp [ChangeMaps.setBlock]⟩
  have e1 : putE es x v = es.set i (x, v) := by unfold putE; rw [hi]
  have hgi : (ents es)[i]? = some ⟨keyV x, u, i⟩ := by
   have := entsFrom_get es 0 i
   rw [hat] at this
   simpa [ents] using this
  have hlt : i < (ents es).size := by
   have := (List.getElem?_eq_some_iff.1 hat).1
   rw [ents_size]; exact this
  have e2 : ents (putE es x v) = (ents es).modify i fun e => { e with key := keyV x, val := v } := by
   rw [e1]
   apply Array.toList_inj.1
   rw [show (ents (es.set i (x, v))).toList = entsFrom 0 (es.set i (x, v)) from rfl, entsFrom_set]
   rw [Array.toList_modify]
   apply List.ext_getElem?
   intro j
   rw [List.getElem?_modify, List.getElem?_set]
   have hgj := entsFrom_get es 0 i
   by_cases ej : i = j
   ·subst ej
    rw [show (ents es).toList = entsFrom 0 es from rfl, hgj, hat]
    have : i < (entsFrom 0 es).length := by rw [entsFrom_len]; exact (List.getElem?_eq_some_iff.1 hat).1
    simp [this]
   ·simp [ej, ents]
  simp only [Instr.mapUpdate, Sem.run_bind, run_underlying ht, Result.andThen_ok, MapKept.run_getObj_map hb', K.check]
  rw [show (ents es).toList = entsFrom 0 es from rfl, hf, hi]
  have hks : ∀ W, (Instr.keyThatStays (keyV x) (keyV x)).run P W = .ok (keyV x) W := fun W => run_keyStays13 x W
  simp only [Result.andThen_ok, hgi, Option.map_some, Option.getD_some]
  rw [Sem.run_bind, hks]
  simp only [Result.andThen_ok, hst]
  rw [e2, e1]
  simp

/-! ### A walk over a map -/
/-- The iterator in block r walks over the map in block b, which holds es; vs has come; cnt are still to come. -/
def Iter13 (W : World) (b r : Nat) (es vs : Ents) (cnt : Nat) : Prop :=
 MapB W b es ∧ ∃ seen c0, W.heap[r]? = some (.mapIter (some b) es.length seen c0) ∧ es.length ≤ c0 ∧ (leftOf (ents es) seen).size = cnt ∧
  (∀ (i : Nat) p, es[i]? = some p → seen.contains i = decide (p.1 ∈ vs.map (·.1))) ∧ (∀ p ∈ vs, p ∈ es) ∧ KeysNd vs
theorem Iter13.left_eq {W : World} {b r cnt : Nat} {es vs : Ents} (h : Iter13 W b r es vs cnt) : W.rangeLeft b r = cnt := by
 obtain ⟨hb, seen, c0, hr, -, hc, -⟩ := h
 have hb' : W.heap[b]? = some (.map (ents es) es.length) := hb
 simp only [World.rangeLeft, hb', hr]
 exact hc
theorem Iter13.map {W : World} {b r cnt : Nat} {es vs : Ents} (h : Iter13 W b r es vs cnt) : MapB W b es := h.1
theorem Iter13.lt {W : World} {b r cnt : Nat} {es vs : Ents} (h : Iter13 W b r es vs cnt) : r < W.heap.size := by
 obtain ⟨-, seen, c0, hr, -⟩ := h
 exact (Array.getElem?_eq_some_iff.1 hr).1
theorem Iter13.iter {W : World} {b r cnt : Nat} {es vs : Ents} (h : Iter13 W b r es vs cnt) : ∃ s c q, W.heap[r]? = some (.mapIter (some b) s c q) := by
 obtain ⟨-, seen, c0, hr, -⟩ := h
 exact ⟨_, _, _, hr⟩
theorem Iter13.same {W W' : World} {b r cnt : Nat} {es vs : Ents} (h : Iter13 W b r es vs cnt) (hb : W'.heap[b]? = W.heap[b]?) (hr : W'.heap[r]? = W.heap[r]?) : Iter13 W' b r es vs cnt := by
 obtain ⟨h1, seen, c0, h2, rest⟩ := h
 exact ⟨hb.trans h1, seen, c0, hr.trans h2, rest⟩
theorem Iter13.below {W W' : World} {b r cnt n : Nat} {es vs : Ents} (h : Iter13 W b r es vs cnt) (hb : Below n W W') (h1 : b < n) (h2 : r < n) : Iter13 W' b r es vs cnt := h.same (hb.block b h1) (hb.block r h2)
/-- All has come. -/
theorem Iter13.all {W : World} {b r : Nat} {es vs : Ents} (hn : KeysNd es) (h : Iter13 W b r es vs 0) : vs.Perm es := by
 obtain ⟨hb, seen, c0, hr, -, hc, hs, hsub, hv⟩ := h
 have hall := all_seen (ents es) seen hc
 have hnv : vs.Nodup := List.Pairwise.of_map _ (fun a b h e => h (congrArg _ e)) hv
 have hne : es.Nodup := List.Pairwise.of_map _ (fun a b h e => h (congrArg _ e)) hn
 refine (List.perm_ext_iff_of_nodup hnv hne).2 fun p => ⟨hsub p, fun hp => ?_⟩
 obtain ⟨i, hi⟩ := List.mem_iff_getElem?.1 hp
 have h1 := hall ⟨keyV p.1, p.2, i⟩ (ents_mem.2 ⟨i, p, hi, rfl⟩)
 have h2 := hs i p hi
 rw [h1] at h2
 have h3 : p.1 ∈ vs.map (·.1) := by simpa using h2.symm
 obtain ⟨q, hq, e⟩ := List.mem_map.1 h3
 have e2 : look es p.1 = some p.2 := look_mem hn hp
 have e3 : look es q.1 = some q.2 := look_mem hn (hsub q hq)
 rw [e, e2] at e3
 have : q = p := Prod.ext e (Option.some.inj e3).symm
 exact this ▸ hq
theorem run_range13 {t e : TypeId} (ht : P.underlying t = some (.map k e)) {w : World} {b : Nat} {es : Ents} (hb : MapB w b es) :
  ∃ w', (Instr.range t (.map (some b))).run P w = .ok (.pointer (some ⟨w.heap.size, 0, none⟩)) w' ∧ Iter13 w' b w.heap.size es [] es.length ∧ w.grownBy w' none ∧ w'.heap.size = w.heap.size + 1 := by
 have hb' : w.heap[b]? = some (.map (ents es) es.length) := hb
 refine ⟨_, run_range_map w t k e b _ _ ht hb', ⟨((MapKept.heap_alloc w _).2 b hb.lt).trans hb, #[], es.length, (MapKept.heap_alloc w _).1, Nat.le_refl _, by rw [leftOf, Array.filter_eq_self.2 (by simp), ents_size], fun i p _ => by simp, by simp, by simp [KeysNd]⟩, World.grownBy_alloc w _ none, by simp⟩
theorem run_next13 {w : World} {b r cnt : Nat} {es vs : Ents} (hn : KeysNd es) (h : Iter13 w b r es vs cnt) (ty : TypeId) :
  (cnt = 0 ∧ (Instr.next (.pointer (some ⟨r, 0, none⟩)) false ty).run P w = .ok (.tuple #[.bool false]) w) ∨
  ∃ p w' cnt', p ∈ es ∧ p.1 ∉ vs.map (·.1) ∧ (Instr.next (.pointer (some ⟨r, 0, none⟩)) false ty).run P w = .ok (.tuple #[.bool true, keyV p.1, p.2]) w' ∧
   Iter13 w' b r es (vs ++ [p]) cnt' ∧ cnt' < cnt ∧ w.grownBy w' (some r) ∧ w'.heap.size = w.heap.size ∧ (Instr.entry (.pointer (some ⟨r, 0, none⟩))).run P w' = .ok (.tuple #[keyV p.1, p.2]) w' := by
 obtain ⟨hb, seen, c0, hr, hc0, hc, hs, hsub, hv⟩ := h
 have hb' : w.heap[b]? = some (.map (ents es) es.length) := hb
 have hne : r ≠ b := fun e => by rw [e, hb'] at hr; cases hr
 rcases run_next_at (P := P) w ty r b es.length c0 seen (ents es) es.length hr hb' ents_born hc0 with ⟨h0, hrun⟩ | ⟨e, he, w1, hal, hrun⟩
 ·exact .inl ⟨hc ▸ h0, hrun⟩
 ·obtain ⟨hem, hes⟩ := mem_left he
  have hem' := hem
  obtain ⟨i, p, hp, rfl⟩ := ents_mem.1 hem
  have hpn : p.1 ∉ vs.map (·.1) := by
   have := hs i p hp
   simp only at hes
   rw [hes] at this
   simpa using this.symm
  have hr1 : w1.heap[r]? = some (.mapIter (some b) es.length seen c0) := by rcases hal with rfl | rfl <;> exact hr
  have hb1 : w1.heap[b]? = some (.map (ents es) es.length) := by rcases hal with rfl | rfl <;> exact hb'
  have hset := MapKept.heap_set (o' := .mapIter (some b) es.length (seen.push i) es.length) hr1
  have hsz : (ChangeMaps.setBlock w1 r (.mapIter (some b) es.length (seen.push i) es.length)).heap.size = w.heap.size := by
   rcases hal with rfl | rfl
   ·simp [ChangeMaps.setBlock]
   ·show (w.heap.setIfInBounds r _).size = _
    simp
  have hb2 : (ChangeMaps.setBlock w1 r (.mapIter (some b) es.length (seen.push i) es.length)).heap[b]? = some (.map (ents es) es.length) := (hset.2 b (fun e1 => hne e1.symm)).trans hb1
  refine .inr ⟨p, _, (leftOf (ents es) (seen.push i)).size, List.mem_iff_getElem?.2 ⟨i, hp⟩, hpn, hrun, ⟨hb2, seen.push i, es.length, hset.1, Nat.le_refl _, rfl, ?_, ?_, ?_⟩, ?_, ?_, hsz, ?_⟩
  ·intro j q hq
   rw [contains_push, hs j q hq]
   have hinj : (j == i) = decide (q.1 = p.1) := by
    by_cases ej : j = i
    ·subst ej
     rw [hp] at hq
     cases hq
     simp
    ·have : q.1 ≠ p.1 := fun e1 => by
      unfold KeysNd at hn
      have h1 : (es.map (·.1))[j]? = some q.1 := by rw [List.getElem?_map, hq]; rfl
      have h2 : (es.map (·.1))[i]? = some q.1 := by rw [List.getElem?_map, hp, e1]; rfl
      obtain ⟨l1, g1⟩ := List.getElem?_eq_some_iff.1 h1
      exact ej ((List.getElem?_inj l1 hn).1 (h1.trans h2.symm))
     simp [ej, this]
   show (decide (q.1 ∈ vs.map (·.1)) || j == i) = _
   rw [hinj, ← Bool.decide_or]
   exact decide_eq_decide.2 (by rw [List.map_append, List.mem_append, List.map_singleton, List.mem_singleton])
  ·intro q hq
   rcases List.mem_append.1 hq with hq | hq
   ·exact hsub q hq
   ·rw [List.mem_singleton.1 hq]; exact List.mem_iff_getElem?.2 ⟨i, hp⟩
  ·unfold KeysNd at hv ⊢
   rw [List.map_append, List.nodup_append]
   refine ⟨hv, by simp, ?_⟩
   intro a ha c hc2
   simp at hc2
   subst hc2
   exact fun e => hpn (e ▸ ha)
  ·have := left_shrinks (ents es) seen _ he
   simp only at this
   omega
  ·refine ⟨by rcases hal with rfl | rfl <;> rfl, by rcases hal with rfl | rfl <;> rfl, by rcases hal with rfl | rfl <;> rfl, Nat.le_of_eq hsz.symm, fun j hj hne2 => ?_⟩
   refine (hset.2 j fun e => hne2 (by rw [e])).trans ?_
   rcases hal with rfl | rfl <;> rfl
  ·exact run_entry_at _ r b es.length seen (ents es) es.length _ hset.1 hb2 hem' (entsFrom_nodup es 0)
end

/-! ### At the operations -/
section
variable {P : Program} {k : TypeId} (w : World) {ops : Array Oper} {rest : List Oper} {o : Oper} {a : Act} {Q : Exit → Act → World → Prop}
theorem wpList_range13 (hg : o.guard = none) (m : Operand) (t e : TypeId) (hop : o.op = Op.range t m) (ht : P.underlying t = some (.map k e)) (b : Nat) (es : Ents) (hm : a.eval m = .map (some b)) (hb : MapB w b es)
  (hK : ∀ w', Iter13 w' b w.heap.size es [] es.length → w.grownBy w' none → w'.heap.size = w.heap.size + 1 → wpList P ops Q rest (a.put o.dst (.pointer (some ⟨w.heap.size, 0, none⟩))) w') :
  wpList P ops Q (o :: rest) a w := by
 refine wpList_plain hg fun K' hK' => ?_
 obtain ⟨w', hrun, r1, r2, r3⟩ := run_range13 (P := P) (k := k) ht hb
 unfold Oper.wp
 simp [execOp, hop, hm, hrun, Result.andThen]
 exact hK' _ _ (hK w' r1 r2 r3)
theorem wpList_next13 (hg : o.guard = none) (it : Operand) (hop : o.op = Op.next it false) (b r : Nat) (es vs : Ents) (cnt : Nat) (hn : KeysNd es) (hit : a.eval it = .pointer (some ⟨r, 0, none⟩)) (h : Iter13 w b r es vs cnt)
  (hDone : cnt = 0 → wpList P ops Q rest (a.put o.dst (.tuple #[.bool false])) w)
  (hMore : ∀ (p : K13 × Value) (w' : World) (cnt' : Nat), p ∈ es → p.1 ∉ vs.map (·.1) → Iter13 w' b r es (vs ++ [p]) cnt' → cnt' < cnt → w.grownBy w' (some r) → w'.heap.size = w.heap.size →
   (Instr.entry (.pointer (some ⟨r, 0, none⟩))).run P w' = .ok (.tuple #[keyV p.1, p.2]) w' → wpList P ops Q rest (a.put o.dst (.tuple #[.bool true, keyV p.1, p.2])) w') :
  wpList P ops Q (o :: rest) a w := by
 refine wpList_plain hg fun K' hK' => ?_
 unfold Oper.wp
 rcases run_next13 (P := P) hn h o.type with ⟨h0, hrun⟩ | ⟨p, w', cnt', hp, hnp, hrun, hit2, hlt, hgr, hsz, hen⟩
 ·simp [execOp, hop, hit, hrun, Result.andThen]
  exact hK' _ _ (hDone h0)
 ·simp [execOp, hop, hit, hrun, Result.andThen]
  exact hK' _ _ (hMore p w' cnt' hp hnp hit2 hlt hgr hsz hen)
theorem wpList_lookup13 (hg : o.guard = none) (m x : Operand) (t e : TypeId) (ok : Bool) (hop : o.op = Op.lookup t m x ok) (K : KeyT P k) (ht : P.underlying t = some (.map k e)) {z : Value} (hz : (zeroValue e).run P w = .ok z w) (b : Nat) (es : Ents) (y : K13)
  (hm : a.eval m = .map (some b)) (hx : a.eval x = keyV y) (hb : MapB w b es)
  (hK : wpList P ops Q rest (a.put o.dst (if ok then .tuple #[(look es y).getD z, .bool (look es y).isSome] else (look es y).getD z)) w) :
  wpList P ops Q (o :: rest) a w := by
 refine wpList_plain hg fun K' hK' => ?_
 have hrun := run_lookup13 K ht hb y hz ok
 unfold Oper.wp
 simp only [execOp, hop, hm, hx, Sem.run_bind, hrun, Result.andThen, Sem.run_pure]
 exact hK' _ _ hK
theorem wpList_update13 (hg : o.guard = none) (m x v : Operand) (t e : TypeId) (hop : o.op = Op.mapUpdate t m x v) (K : KeyT P k) (ht : P.underlying t = some (.map k e)) (b : Nat) (es : Ents) (y : K13) (u : Value)
  (hm : a.eval m = .map (some b)) (hx : a.eval x = keyV y) (hv : a.eval v = u) (hb : MapB w b es)
  (hK : ∀ w', MapB w' b (putE es y u) → w.grownBy w' (some b) → w'.heap.size = w.heap.size → wpList P ops Q rest (a.put o.dst undef) w') :
  wpList P ops Q (o :: rest) a w := by
 refine wpList_plain hg fun K' hK' => ?_
 obtain ⟨w', hrun, r1, r2, r3⟩ := run_update13 K ht hb y u
 unfold Oper.wp
 simp [execOp, hop, hm, hx, hv, hrun, Result.andThen]
 exact hK' _ _ (hK w' r1 r2 r3)
end
section
variable {F : Fence} {nF : Nat} {P : Program} {k : TypeId} (w : World) {ops : Array Oper} {rest : List Oper} {o : Oper} {a : Act} {Q : Exit → Act → World → Prop}
theorem wpListIn_range13 (hg : o.guard = none) (m : Operand) (t e : TypeId) (hop : o.op = Op.range t m) (ht : P.underlying t = some (.map k e)) (b : Nat) (es : Ents) (hm : a.eval m = .map (some b)) (hb : MapB w b es)
  (hK : ∀ w', Iter13 w' b w.heap.size es [] es.length → w.grownBy w' none → w'.heap.size = w.heap.size + 1 → wpListIn F nF P ops Q rest (a.put o.dst (.pointer (some ⟨w.heap.size, 0, none⟩))) w') :
  wpListIn F nF P ops Q (o :: rest) a w := by
 refine wpListIn_plain hg fun K' hK' => ?_
 obtain ⟨w', hrun, r1, r2, r3⟩ := run_range13 (P := P) (k := k) ht hb
 unfold Oper.wpIn
 refine ⟨by simp [Oper.about, hop], ?_⟩
 rw [Oper.semAt_plain F _ _ (by rw [hop]; intro c hc'; cases hc')]
 simp [execOp, hop, hm, hrun, Result.andThen]
 exact hK' _ _ (hK w' r1 r2 r3)
theorem wpListIn_next13 (hg : o.guard = none) (it : Operand) (hop : o.op = Op.next it false) (b r : Nat) (es vs : Ents) (cnt : Nat) (hn : KeysNd es) (hit : a.eval it = .pointer (some ⟨r, 0, none⟩)) (h : Iter13 w b r es vs cnt)
  (hDone : cnt = 0 → wpListIn F nF P ops Q rest (a.put o.dst (.tuple #[.bool false])) w)
  (hMore : ∀ (p : K13 × Value) (w' : World) (cnt' : Nat), p ∈ es → p.1 ∉ vs.map (·.1) → Iter13 w' b r es (vs ++ [p]) cnt' → cnt' < cnt → w.grownBy w' (some r) → w'.heap.size = w.heap.size →
   (Instr.entry (.pointer (some ⟨r, 0, none⟩))).run P w' = .ok (.tuple #[keyV p.1, p.2]) w' → wpListIn F nF P ops Q rest (a.put o.dst (.tuple #[.bool true, keyV p.1, p.2])) w') :
  wpListIn F nF P ops Q (o :: rest) a w := by
 refine wpListIn_plain hg fun K' hK' => ?_
 unfold Oper.wpIn
 refine ⟨by simp [Oper.about, hop], ?_⟩
 rw [Oper.semAt_plain F _ _ (by rw [hop]; intro c hc'; cases hc')]
 rcases run_next13 (P := P) hn h o.type with ⟨h0, hrun⟩ | ⟨p, w', cnt', hp, hnp, hrun, hit2, hlt, hgr, hsz, hen⟩
 ·simp [execOp, hop, hit, hrun, Result.andThen]
  exact hK' _ _ (hDone h0)
 ·simp [execOp, hop, hit, hrun, Result.andThen]
  exact hK' _ _ (hMore p w' cnt' hp hnp hit2 hlt hgr hsz hen)
end

/-! ### What lasts where a map, or a walk over one, is turned -/
/-- All cells below B lie as they lay. -/
structure Same13 (B : Nat) (W W' : World) : Prop where
 size : W.heap.size ≤ W'.heap.size
 cell : ∀ p : Addr, p.block < B → W'.cell? p = W.cell? p
 blk : ∀ (i : Nat) (c : Array Value) (t : TypeId) (f : Nat × Nat), i < B → W.heap[i]? = some (.cells c t f) → W'.heap[i]? = some (.cells c t f)
theorem below_same {B : Nat} {W W' : World} (h : Below B W W') : Same13 B W W' := ⟨h.size, fun p hp => h.cell hp, fun i c t f hi ho => (h.block i hi).trans ho⟩
theorem Same13.trans {B : Nat} {W1 W2 W3 : World} (h : Same13 B W1 W2) (k : Same13 B W2 W3) : Same13 B W1 W3 :=
 ⟨Nat.le_trans h.size k.size, fun p hp => (k.cell p hp).trans (h.cell p hp), fun i c t f hi ho => k.blk i c t f hi (h.blk i c t f hi ho)⟩
theorem Same13.mono {B B' : Nat} {W W' : World} (h : Same13 B W W') (hB : B' ≤ B) : Same13 B' W W' := ⟨h.size, fun p hp => h.cell p (by omega), fun i c t f hi ho => h.blk i c t f (by omega) ho⟩
theorem grown_same {W W' : World} {b : Nat} (hg : W.grownBy W' (some b)) (h1 : ∀ off own, W.cell? ⟨b, off, own⟩ = none) (h2 : ∀ off own, W'.cell? ⟨b, off, own⟩ = none) (h3 : ∀ c t f, W.heap[b]? ≠ some (.cells c t f)) : Same13 W.heap.size W W' := by
 refine ⟨hg.size, fun p hp => ?_, fun i c t f hi ho => ?_⟩
 ·obtain ⟨k, off, own⟩ := p
  by_cases e : k = b
  ·subst e; rw [h1, h2]
  ·exact World.cell?_of_block (hg.block k hp fun e2 => e (by simpa using e2))
 ·by_cases e : i = b
  ·subst e; exact absurd ho (h3 c t f)
  ·exact (hg.block i hi fun e2 => e (by simpa using e2)).trans ho
theorem map_same {W W' : World} {b : Nat} {es es' : Ents} (hg : W.grownBy W' (some b)) (h1 : MapB W b es) (h2 : MapB W' b es') : Same13 W.heap.size W W' := by
 have g1 : W.heap[b]? = _ := h1
 have g2 : W'.heap[b]? = _ := h2
 exact grown_same hg (fun off own => by simp [World.cell?, g1]) (fun off own => by simp [World.cell?, g2]) (fun c t f e => by rw [g1] at e; cases e)
theorem iter_same {W W' : World} {b r n m : Nat} {es vs vs' : Ents} (hg : W.grownBy W' (some r)) (h1 : Iter13 W b r es vs n) (h2 : Iter13 W' b r es vs' m) : Same13 W.heap.size W W' := by
 obtain ⟨s, c, q, g1⟩ := h1.iter
 obtain ⟨s', c', q', g2⟩ := h2.iter
 exact grown_same hg (fun off own => by simp [World.cell?, g1]) (fun off own => by simp [World.cell?, g2]) (fun c t f e => by rw [g1] at e; cases e)
/-- An element's reading lasts. -/
def ElS {α : Type} (R : El α) : Prop := ∀ {W W' : World} {B : Nat} {c : Nat → Option Value} {x : α}, R W B c x → Same13 B W W' → R W' B c x
theorem list_same {α : Type} {sz : Nat} {R : El α} {W W' : World} {B : Nat} {v : Value} {xs : List α} (e : ElS R) (h : ListIn sz R W B v xs) (hb : Same13 B W W') : ListIn sz R W' B v xs := by
 obtain ⟨A, cap, h0, h1, h2, hn, h3⟩ := h
 refine ⟨A, cap, h0, h1, h2, hn, fun hp => ?_⟩
 obtain ⟨b, off, ha, hlt, hc⟩ := h3 hp
 refine ⟨b, off, ha, hlt, fun j hj => ?_⟩
 have hf : (fun k => W'.cell? ⟨b, off + j * sz + k, none⟩) = fun k => W.cell? ⟨b, off + j * sz + k, none⟩ := funext fun k => hb.cell ⟨b, _, none⟩ hlt
 rw [hf]
 exact e (hc j hj) hb
theorem intS : ElS IntR := fun h _ => h
theorem joinS : ElS JoinR := fun h _ => h
theorem sigS : ElS SigR := fun h _ => h
theorem secS : ElS SecR := fun ⟨h0, h1, u, h2, h3⟩ hb => ⟨h0, h1, u, h2, list_same joinS h3 hb⟩
theorem routeS : ElS RouteR := fun ⟨h0, h1, h2, h6, u3, u4, u5, h3, h4, h5, h⟩ hb => ⟨h0, h1, h2, h6, u3, u4, u5, h3, h4, h5, ⟨list_same intS h.path hb, list_same intS h.over hb, list_same joinS h.flanks hb⟩⟩
theorem plin_same {W W' : World} {B : Nat} {u2 u3 u4 u5 : Value} {p : Pl} (h : PlIn W B u2 u3 u4 u5 p) (hb : Same13 B W W') : PlIn W' B u2 u3 u4 u5 p :=
 ⟨list_same secS h.secs hb, list_same joinS h.pts hb, list_same sigS h.sigs hb, list_same routeS h.routes hb⟩

/-! ### Elements by themselves -/
/-- A plan that has nothing but the element. -/
def aloneP : Any13 → Pl
 | .sec s => ⟨0, 0, [s], [], [], []⟩
 | .pt x => ⟨0, 0, [], [x], [], []⟩
 | .sig x => ⟨0, 0, [], [], [x], []⟩
 | .route r => ⟨0, 0, [], [], [], [r]⟩
 | .none => ⟨0, 0, [], [], [], []⟩
theorem alone_inj {x y : Any13} : aloneP x = aloneP y ↔ x = y := by
 constructor
 ·intro h
  cases x <;> cases y <;> simp [aloneP] at h ⊢ <;> exact h
 ·intro h; rw [h]
theorem alone_eq (x y : Any13) : eqB (aloneP x) (aloneP y) = eqB x y := by
 rw [Bool.eq_iff_iff, eqB_iff, eqB_iff]
 exact alone_inj
theorem alone_ver (x : Any13) : (aloneP x).ver = 0 ∧ (aloneP x).par = 0 := by cases x <;> exact ⟨rfl, rfl⟩
def fnV (B : Nat) : Value := .func (.func 129) #[] #[.pointer (some ⟨B, 0, none⟩)]
/-- An element's cells: a plan that has it alone, and the function that holds another one against it. -/
structure ElemC (W : World) (lo : Nat) (u2 u3 u4 u5 f : Value) (x : Any13) : Prop where
 plan : PlIn W lo u2 u3 u4 u5 (aloneP x)
 fn : (x = .none ∧ f = .nilFunc) ∨ (x ≠ .none ∧ ∃ B, f = fnV B ∧ B < lo ∧ W.heap[B]? = some (.cells #[.int .i64 0, .int .i64 0, u2, u3, u4, u5] 33 (0, 0)))
theorem ElemC.same {W W' : World} {lo : Nat} {u2 u3 u4 u5 f : Value} {x : Any13} (h : ElemC W lo u2 u3 u4 u5 f x) (hb : Same13 lo W W') : ElemC W' lo u2 u3 u4 u5 f x := by
 refine ⟨plin_same h.plan hb, ?_⟩
 rcases h.fn with h1 | ⟨h1, B, h2, h3, h4⟩
 ·exact .inl h1
 ·exact .inr ⟨h1, B, h2, h3, hb.blk _ _ _ _ h3 h4⟩
theorem ElemC.more {W : World} {lo lo' : Nat} {u2 u3 u4 u5 f : Value} {x : Any13} (h : ElemC W lo u2 u3 u4 u5 f x) (hb : lo ≤ lo') : ElemC W lo' u2 u3 u4 u5 f x := by
 refine ⟨h.plan.more hb, ?_⟩
 rcases h.fn with h1 | ⟨h1, B, h2, h3, h4⟩
 ·exact .inl h1
 ·exact .inr ⟨h1, B, h2, by omega, h4⟩
theorem elemC_none (W : World) (lo : Nat) : ElemC W lo (.slice none 0 0) (.slice none 0 0) (.slice none 0 0) (.slice none 0 0) .nilFunc .none :=
 ⟨⟨ListIn.nil_, ListIn.nil_, ListIn.nil_, ListIn.nil_⟩, .inl ⟨rfl, rfl⟩⟩
def ElemV (W : World) (lo : Nat) (v : Value) (x : Any13) : Prop := ∃ u2 u3 u4 u5 f, v = .agg #[.int .i64 0, .int .i64 0, u2, u3, u4, u5, f] ∧ ElemC W lo u2 u3 u4 u5 f x
theorem ElemV.same {W W' : World} {lo : Nat} {v : Value} {x : Any13} (h : ElemV W lo v x) (hb : Same13 lo W W') : ElemV W' lo v x := by
 obtain ⟨u2, u3, u4, u5, f, rfl, h⟩ := h
 exact ⟨u2, u3, u4, u5, f, rfl, h.same hb⟩
theorem ElemV.more {W : World} {lo lo' : Nat} {v : Value} {x : Any13} (h : ElemV W lo v x) (hb : lo ≤ lo') : ElemV W lo' v x := by
 obtain ⟨u2, u3, u4, u5, f, rfl, h⟩ := h
 exact ⟨u2, u3, u4, u5, f, rfl, h.more hb⟩
/-- What two plans have of one kind and number. -/
def PairV (W : World) (lo : Nat) (v : Value) (x y : Any13) : Prop :=
 ∃ u2 u3 u4 u5 f z2 z3 z4 z5 g, v = .agg #[.int .i64 0, .int .i64 0, u2, u3, u4, u5, f, .int .i64 0, .int .i64 0, z2, z3, z4, z5, g] ∧ ElemC W lo u2 u3 u4 u5 f x ∧ ElemC W lo z2 z3 z4 z5 g y
theorem PairV.same {W W' : World} {lo : Nat} {v : Value} {x y : Any13} (h : PairV W lo v x y) (hb : Same13 lo W W') : PairV W' lo v x y := by
 obtain ⟨u2, u3, u4, u5, f, z2, z3, z4, z5, g, rfl, h, h'⟩ := h
 exact ⟨u2, u3, u4, u5, f, z2, z3, z4, z5, g, rfl, h.same hb, h'.same hb⟩
theorem PairV.more {W : World} {lo lo' : Nat} {v : Value} {x y : Any13} (h : PairV W lo v x y) (hb : lo ≤ lo') : PairV W lo' v x y := by
 obtain ⟨u2, u3, u4, u5, f, z2, z3, z4, z5, g, rfl, h, h'⟩ := h
 exact ⟨u2, u3, u4, u5, f, z2, z3, z4, z5, g, rfl, h.more hb, h'.more hb⟩
def zPair : Value := .agg #[.int .i64 0, .int .i64 0, .slice none 0 0, .slice none 0 0, .slice none 0 0, .slice none 0 0, .nilFunc, .int .i64 0, .int .i64 0, .slice none 0 0, .slice none 0 0, .slice none 0 0, .slice none 0 0, .nilFunc]
theorem pairV_none (W : World) (lo : Nat) : PairV W lo zPair .none .none := ⟨_, _, _, _, _, _, _, _, _, _, rfl, elemC_none W lo, elemC_none W lo⟩

/-! ### What became of it -/
noncomputable def becomeV (x y : Any13) : Int := @ite _ (x = .none) (Classical.propDecidable _) 2 (@ite _ (y = .none) (Classical.propDecidable _) 3 (if eqB x y then 0 else 1))
theorem become_added {x y : Any13} (h : x = .none) : becomeV x y = 2 := by unfold becomeV; rw [if_pos h]
theorem become_removed {x y : Any13} (h : x ≠ .none) (h' : y = .none) : becomeV x y = 3 := by unfold becomeV; rw [if_neg h, if_pos h']
theorem become_both {x y : Any13} (h : x ≠ .none) (h' : y ≠ .none) : becomeV x y = if eqB x y then 0 else 1 := by unfold becomeV; rw [if_neg h, if_neg h']
/-- What a plan has of a kind and number. -/
def elK (p : Pl) (k : K13) : Any13 := if 1 ≤ k.1 ∧ k.1 ≤ 4 then elD p k.1 k.2 else .none
theorem become_is {a b : Pl} {k : K13} (h : elK a k ≠ .none ∨ elK b k ≠ .none) : becomeV (elK a k) (elK b k) = isD a b k.1 k.2 ∧ isD a b k.1 k.2 ≠ 4 := by
 have hr : 1 ≤ k.1 ∧ k.1 ≤ 4 := by
  by_cases e : 1 ≤ k.1 ∧ k.1 ≤ 4
  ·exact e
  ·unfold elK at h; rw [if_neg e, if_neg e] at h; simp at h
 have e1 : elK a k = elD a k.1 k.2 := by rw [elK, if_pos hr]
 have e2 : elK b k = elD b k.1 k.2 := by rw [elK, if_pos hr]
 rw [e1, e2] at h ⊢
 unfold isD
 by_cases ha : placeD a k.1 k.2 < 0
 ·have na := (elD_none a k.1 k.2).2 ha
  by_cases hb : placeD b k.1 k.2 < 0
  ·have nb := (elD_none b k.1 k.2).2 hb
   rw [na, nb] at h; simp at h
  ·rw [become_added na, if_pos ha, if_neg hb]; exact ⟨rfl, by decide⟩
 ·have na : elD a k.1 k.2 ≠ .none := fun e => ha ((elD_none a k.1 k.2).1 e)
  by_cases hb : placeD b k.1 k.2 < 0
  ·have nb := (elD_none b k.1 k.2).2 hb
   rw [become_removed na nb, if_neg ha, if_pos hb]; exact ⟨rfl, by decide⟩
  ·have nb : elD b k.1 k.2 ≠ .none := fun e => hb ((elD_none b k.1 k.2).1 e)
   rw [become_both na nb, if_neg ha, if_neg hb]
   exact ⟨rfl, by split <;> decide⟩

/-! ### A plan's keys -/
def ksP (p : Pl) (kind : Int) : List K13 := (keysD p kind).map fun z => (kind, z)
def allK (p : Pl) : List K13 := ksP p 1 ++ ksP p 2 ++ ksP p 3 ++ ksP p 4
theorem ksP_mem {p : Pl} {kind : Int} {k : K13} : k ∈ ksP p kind ↔ k.1 = kind ∧ k.2 ∈ keysD p kind := by
 unfold ksP
 rw [List.mem_map]
 constructor
 ·rintro ⟨z, hz, rfl⟩; exact ⟨rfl, hz⟩
 ·rintro ⟨rfl, h⟩; exact ⟨k.2, h, rfl⟩
theorem el_ne {p : Pl} {k : K13} : elK p k ≠ .none ↔ k ∈ allK p := by
 have hm : k ∈ allK p ↔ (1 ≤ k.1 ∧ k.1 ≤ 4) ∧ k.2 ∈ keysD p k.1 := by
  unfold allK
  rw [List.mem_append, List.mem_append, List.mem_append, ksP_mem, ksP_mem, ksP_mem, ksP_mem]
  constructor
  ·rintro (((⟨e, h⟩ | ⟨e, h⟩) | ⟨e, h⟩) | ⟨e, h⟩) <;> exact ⟨by omega, by rw [e]; exact h⟩
  ·rintro ⟨h1, h2⟩
   have : k.1 = 1 ∨ k.1 = 2 ∨ k.1 = 3 ∨ k.1 = 4 := by omega
   rcases this with e | e | e | e <;> rw [e] at h2 <;> simp [e, h2]
 rw [hm, ← place_in]
 unfold elK
 by_cases h : 1 ≤ k.1 ∧ k.1 ≤ 4
 ·rw [if_pos h, Ne, elD_none]; exact ⟨fun g => ⟨h, g⟩, fun g => g.2⟩
 ·rw [if_neg h]; simp [h]
theorem el_sec {p : Pl} (h : Rising p) {i : Nat} (hi : i < p.secs.length) : elK p (1, p.secs[i].1) = .sec p.secs[i] := by
 obtain ⟨g1, g2⟩ := (at1_get h.secs (0, 0, []) p.secs[i]).1 (List.getElem_mem hi)
 rw [elK, if_pos ⟨by dsimp only; omega, by dsimp only; omega⟩]
 simp only [elD, placeD, if_true, atS_at1]
 rw [if_neg g1, g2]
theorem el_pt {p : Pl} (h : Rising p) {i : Nat} (hi : i < p.pts.length) : elK p (2, p.pts[i].1) = .pt p.pts[i] := by
 obtain ⟨g1, g2⟩ := (at1_get h.pts (0, 0) p.pts[i]).1 (List.getElem_mem hi)
 rw [elK, if_pos ⟨by dsimp only; omega, by dsimp only; omega⟩]
 simp only [elD, placeD, if_true, show ¬ (2 : Int) = 1 by decide, if_false]
 rw [if_neg g1, g2]
theorem el_sig {p : Pl} (h : Rising p) {i : Nat} (hi : i < p.sigs.length) : elK p (3, p.sigs[i].1) = .sig p.sigs[i] := by
 obtain ⟨g1, g2⟩ := (at1_get h.sigs (0, 0, 0) p.sigs[i]).1 (List.getElem_mem hi)
 rw [elK, if_pos ⟨by dsimp only; omega, by dsimp only; omega⟩]
 simp only [elD, placeD, if_true, show ¬ (3 : Int) = 1 by decide, show ¬ (3 : Int) = 2 by decide, if_false]
 rw [if_neg g1, g2]
theorem el_route {p : Pl} (h : Rising p) {i : Nat} (hi : i < p.routes.length) : elK p (4, p.routes[i].id) = .route p.routes[i] := by
 obtain ⟨g1, g2⟩ := (at1_get h.routes ⟨0, 0, 0, [], [], [], 0⟩ p.routes[i]).1 (List.getElem_mem hi)
 rw [elK, if_pos ⟨by dsimp only; omega, by dsimp only; omega⟩]
 simp only [elD, placeD, show ¬ (4 : Int) = 1 by decide, show ¬ (4 : Int) = 2 by decide, show ¬ (4 : Int) = 3 by decide, if_false]
 rw [if_neg g1, g2]

/-- A map that holds a plan's elements at just these keys. -/
structure ElMap (W : World) (lo b : Nat) (p : Pl) (KS : List K13) (es : Ents) : Prop where
 map : MapB W b es
 nd : KeysNd es
 keys : ∀ k, k ∈ es.map (·.1) ↔ k ∈ KS
 el : ∀ q ∈ es, ElemV W lo q.2 (elK p q.1)
theorem ElMap.below {W W' : World} {lo b : Nat} {p : Pl} {KS : List K13} {es : Ents} (h : ElMap W lo b p KS es) (hl : W.heap.size ≤ lo) (hb : Below lo W W') : ElMap W' lo b p KS es :=
 ⟨h.map.below hb (Nat.lt_of_lt_of_le h.map.lt hl), h.nd, h.keys, fun q hq => (h.el q hq).same (below_same hb)⟩
theorem ElMap.more {W : World} {lo lo' b : Nat} {p : Pl} {KS : List K13} {es : Ents} (h : ElMap W lo b p KS es) (hl : lo ≤ lo') : ElMap W lo' b p KS es := ⟨h.map, h.nd, h.keys, fun q hq => (h.el q hq).more hl⟩
theorem ElMap.put {W W' : World} {b : Nat} {p : Pl} {KS : List K13} {es : Ents} (h : ElMap W W.heap.size b p KS es) (k : K13) (v : Value) (hm : MapB W' b (putE es k v)) (hg : W.grownBy W' (some b)) (hv : ElemV W W.heap.size v (elK p k)) : ElMap W' W'.heap.size b p (KS ++ [k]) (putE es k v) := by
 have hs := map_same hg h.map hm
 refine ⟨hm, put_nd h.nd k v, fun y => ?_, fun q hq => ?_⟩
 ·rw [List.mem_append, List.mem_singleton, ← h.keys y]
  have h1 := look_put h.nd k v y
  by_cases e : y = k
  ·have : look (putE es k v) y ≠ none := by rw [h1, if_pos e]; simp
   exact ⟨fun _ => .inr e, fun _ => Classical.not_not.1 fun hn => this (look_none.2 hn)⟩
  ·rw [if_neg e] at h1
   constructor
   ·intro hy
    exact .inl (Classical.not_not.1 fun hn => (look_none.1 (h1.trans (look_none.2 hn))) hy)
   ·rintro (hy | hy)
    ·exact Classical.not_not.1 fun hn => (look_none.1 (h1.symm.trans (look_none.2 hn))) hy
    ·exact absurd hy e
 ·rcases put_mem hq with rfl | hq
  ·exact (hv.same hs).more hg.size
  ·exact ((h.el q hq).same hs).more hg.size
theorem look_ne {es : Ents} {x : K13} : look es x ≠ none ↔ x ∈ es.map (·.1) := by rw [Ne, look_none, Classical.not_not]

/-- A map that holds what two plans have at just these keys: of the one x, of the other y. -/
structure PMap (W : World) (lo b : Nat) (x y : K13 → Any13) (es : Ents) : Prop where
 map : MapB W b es
 nd : KeysNd es
 keys : ∀ k, k ∈ es.map (·.1) ↔ x k ≠ .none ∨ y k ≠ .none
 el : ∀ q ∈ es, PairV W lo q.2 (x q.1) (y q.1)
theorem PMap.below {W W' : World} {lo b : Nat} {x y : K13 → Any13} {es : Ents} (h : PMap W lo b x y es) (hl : W.heap.size ≤ lo) (hb : Below lo W W') : PMap W' lo b x y es :=
 ⟨h.map.below hb (Nat.lt_of_lt_of_le h.map.lt hl), h.nd, h.keys, fun q hq => (h.el q hq).same (below_same hb)⟩
theorem PMap.same {W W' : World} {lo b : Nat} {x y : K13 → Any13} {es : Ents} (h : PMap W lo b x y es) (hm : W'.heap[b]? = W.heap[b]?) (hb : Same13 lo W W') : PMap W' lo b x y es :=
 ⟨hm.trans h.map, h.nd, h.keys, fun q hq => (h.el q hq).same hb⟩
theorem PMap.more {W : World} {lo lo' b : Nat} {x y : K13 → Any13} {es : Ents} (h : PMap W lo b x y es) (hl : lo ≤ lo') : PMap W lo' b x y es := ⟨h.map, h.nd, h.keys, fun q hq => (h.el q hq).more hl⟩
/-- What is looked up. -/
theorem PMap.at {W : World} {lo b : Nat} {x y : K13 → Any13} {es : Ents} (h : PMap W lo b x y es) (k : K13) : PairV W lo ((look es k).getD zPair) (x k) (y k) ∧ ((look es k).isSome = true ↔ (x k ≠ .none ∨ y k ≠ .none)) := by
 cases e : look es k with
 | some v =>
  have hm := look_some e
  exact ⟨h.el _ hm, fun _ => (h.keys k).1 (List.mem_map.2 ⟨_, hm, rfl⟩), fun _ => rfl⟩
 | none =>
  have hn := look_none.1 e
  have hx : ¬ (x k ≠ .none ∨ y k ≠ .none) := fun g => hn ((h.keys k).2 g)
  have h1 : x k = .none := Classical.not_not.1 fun g => hx (.inl g)
  have h2 : y k = .none := Classical.not_not.1 fun g => hx (.inr g)
  refine ⟨?_, fun g => (by cases g), fun g => absurd g hx⟩
  rw [h1, h2]
  exact pairV_none W lo
theorem PMap.put {W W' : World} {b : Nat} {x y x' y' : K13 → Any13} {es : Ents} (h : PMap W W.heap.size b x y es) (k : K13) (v : Value) (hm : MapB W' b (putE es k v)) (hg : W.grownBy W' (some b)) (hv : PairV W W.heap.size v (x' k) (y' k))
  (hne : x' k ≠ .none ∨ y' k ≠ .none) (hx : ∀ z, z ≠ k → x' z = x z ∧ y' z = y z) : PMap W' W'.heap.size b x' y' (putE es k v) := by
 have hs := map_same hg h.map hm
 refine ⟨hm, put_nd h.nd k v, fun z => ?_, fun q hq => ?_⟩
 ·rw [← look_ne, look_put h.nd k v z]
  by_cases e : z = k
  ·rw [if_pos e, e]; exact ⟨fun _ => hne, fun _ => by simp⟩
  ·rw [if_neg e, look_ne, h.keys, (hx z e).1, (hx z e).2]
 ·have hq2 := hq
  rcases put_mem hq with rfl | hq
  ·exact (hv.same hs).more hg.size
  ·by_cases e : q.1 = k
   ·have h1 := look_mem (put_nd h.nd k v) hq2
    rw [look_put h.nd, if_pos e] at h1
    have : q.2 = v := (Option.some.inj h1).symm
    rw [this, e]
    exact (hv.same hs).more hg.size
   ·rw [(hx _ e).1, (hx _ e).2]
    exact ((h.el q hq).same hs).more hg.size

/-! ### The keys in order -/
def numK (k : K13) : Int := k.1 * 1000 + k.2
noncomputable def keysL (a b : Pl) : List K13 := (diffL a b).map fun x => (x.1, x.2.1)
theorem keysL_len (a b : Pl) : (keysL a b).length = (diffL a b).length := by simp [keysL]
theorem allK_in {p : Pl} (h : PlanMay p) {k : K13} (hk : k ∈ allK p) : 1 ≤ k.1 ∧ k.1 ≤ 4 ∧ 1 ≤ k.2 ∧ k.2 ≤ 99 := by
 unfold allK at hk
 rw [List.mem_append, List.mem_append, List.mem_append, ksP_mem, ksP_mem, ksP_mem, ksP_mem] at hk
 rcases hk with ((⟨e, g⟩ | ⟨e, g⟩) | ⟨e, g⟩) | ⟨e, g⟩ <;> (have := keys_in h _ _ g; omega)
theorem el_in {p : Pl} (h : PlanMay p) {k : K13} (hk : elK p k ≠ .none) : 1 ≤ k.1 ∧ k.1 ≤ 4 ∧ 1 ≤ k.2 ∧ k.2 ≤ 99 := allK_in h (el_ne.1 hk)
theorem keysL_mem {a b : Pl} (ha : PlanMay a) (hb : PlanMay b) (k : K13) : k ∈ keysL a b ↔ elK a k ≠ .none ∨ elK b k ≠ .none := by
 unfold keysL
 rw [List.mem_map]
 constructor
 ·rintro ⟨x, hx, rfl⟩
  obtain ⟨h1, h2, h3, h4, h5, h6⟩ := diffN_mem.1 hx
  have hr : 1 ≤ x.1 ∧ x.1 ≤ 4 := ⟨h1, by exact_mod_cast h2⟩
  refine Classical.not_not.1 fun hn => h6 (h5.trans ?_)
  have n1 : elK a (x.1, x.2.1) = .none := Classical.not_not.1 fun g => hn (.inl g)
  have n2 : elK b (x.1, x.2.1) = .none := Classical.not_not.1 fun g => hn (.inr g)
  rw [elK, if_pos hr, elD_none] at n1 n2
  exact isD_four.2 ⟨n1, n2⟩
 ·intro h
  have hr : 1 ≤ k.1 ∧ k.1 ≤ 4 ∧ 1 ≤ k.2 ∧ k.2 ≤ 99 := by
   rcases h with h | h
   ·exact el_in ha h
   ·exact el_in hb h
  exact ⟨(k.1, k.2, isD a b k.1 k.2), diffN_mem.2 ⟨hr.1, by exact_mod_cast hr.2.1, hr.2.2.1, hr.2.2.2, rfl, (become_is h).2⟩, rfl⟩
theorem keysL_sorted (a b : Pl) : (keysL a b).Pairwise fun x y => numK x < numK y := by
 unfold keysL
 rw [List.pairwise_map]
 have h := diffN_sorted a b 4
 refine List.Pairwise.imp_of_mem (fun {x y} hx hy hxy => ?_) h
 obtain ⟨-, -, h3, h4, -⟩ := diffN_mem.1 hx
 obtain ⟨-, -, g3, g4, -⟩ := diffN_mem.1 hy
 unfold numK
 dsimp only
 rcases hxy with e | ⟨e, e2⟩
 ·omega
 ·omega
/-- Keys in order with the same members are these. -/
theorem keys_are {a b : Pl} (ha : PlanMay a) (hb : PlanMay b) {L : List K13} (hs : L.Pairwise fun x y => numK x < numK y) (hm : ∀ k, k ∈ L ↔ elK a k ≠ .none ∨ elK b k ≠ .none) : L = keysL a b :=
 sorted_ext (k := numK) _ _ hs (keysL_sorted a b) fun k => (hm k).trans (keysL_mem ha hb k).symm
theorem keys_many {a b : Pl} (ha : PlanMay a) (hb : PlanMay b) {L : List K13} (hn : L.Nodup) (hm : ∀ k, k ∈ L ↔ elK a k ≠ .none ∨ elK b k ≠ .none) : L.Perm (keysL a b) := by
 refine (List.perm_ext_iff_of_nodup hn ((keysL_sorted a b).imp fun {x y} h e => ?_)).2 fun k => (hm k).trans (keysL_mem ha hb k).symm
 subst e
 omega
theorem keysL_at {a b : Pl} {j : Nat} (hj : j < (keysL a b).length) : ∃ hj' : j < (diffL a b).length, (diffL a b)[j] = ((keysL a b)[j].1, (keysL a b)[j].2, isD a b (keysL a b)[j].1 (keysL a b)[j].2) := by
 have hl := keysL_len a b
 refine ⟨by omega, ?_⟩
 have e : (keysL a b)[j] = ((diffL a b)[j].1, (diffL a b)[j].2.1) := by simp [keysL]
 obtain ⟨-, -, -, -, h5, -⟩ := diffN_mem.1 (List.getElem_mem (show j < (diffN a b 4).length from (by omega : j < (diffL a b).length)))
 rw [e]
 have h6 : (diffL a b)[j].2.2 = isD a b (diffL a b)[j].1 (diffL a b)[j].2.1 := h5
 rw [← h6]
open Go.Sort (grow)

theorem isNaN8_any (x : Int) (w : World) : Calls Tryz.prog 120 #[.int .u8 x] w fun e w' => e = .returned (.bool false) ∧ w = w' := by
 have d : (x != x) = false := by simp
 go_enter Tryz.func120, Tryz.ntmps120
 go_wp2_with fail
 go_ret
 exact ⟨rfl, rfl⟩
theorem compare8_any (x y : Int) (w : World) : Calls Tryz.prog 93 #[.int .u8 x, .int .u8 y] w fun e w' => e = .returned (.int .i64 (cmpZ x y)) ∧ w = w' := by
 have hx := isNaN8_any x
 have hy := isNaN8_any y
 unfold cmpZ
 by_cases h1 : x < y
 ·have d1 : decide (x < y) = true := decide_eq_true h1
  rw [if_pos h1]
  go_enter Tryz.func93, Tryz.ntmps93
  go_wp2_with (go_at_call 120; first | (refine (hx w).mono ?_; rintro e w' ⟨rfl, rfl⟩) | (refine (hy w).mono ?_; rintro e w' ⟨rfl, rfl⟩))
  go_ret
  exact ⟨rfl, rfl⟩
 ·have d1 : decide (x < y) = false := decide_eq_false h1
  rw [if_neg h1]
  by_cases h2 : x > y
  ·have d2 : decide (x > y) = true := decide_eq_true h2
   rw [if_pos h2]
   go_enter Tryz.func93, Tryz.ntmps93
   go_wp2_with (go_at_call 120; first | (refine (hx w).mono ?_; rintro e w' ⟨rfl, rfl⟩) | (refine (hy w).mono ?_; rintro e w' ⟨rfl, rfl⟩))
   go_ret
   exact ⟨rfl, rfl⟩
  ·have d2 : decide (x > y) = false := decide_eq_false h2
   rw [if_neg h2]
   go_enter Tryz.func93, Tryz.ntmps93
   go_wp2_with (go_at_call 120; first | (refine (hx w).mono ?_; rintro e w' ⟨rfl, rfl⟩) | (refine (hy w).mono ?_; rintro e w' ⟨rfl, rfl⟩))
   go_ret
   exact ⟨rfl, rfl⟩
/-- The first that is not nought. -/
def orZ (x y : Int) : Int := if x = 0 then y else x
set_option maxHeartbeats 2000000 in
theorem orI_any (b : Nat) (x y : Int) (w : World) (h : w.heap[b]? = some (.cells #[.int .i64 x, .int .i64 y] 3 (0, 0))) :
  Calls Tryz.prog 92 #[.slice (some ⟨b, 0, none⟩) 2 2] w fun e w' => e = .returned (.int .i64 (orZ x y)) ∧ w = w' := by
 obtain ⟨k0, k1⟩ := cell2_of h
 clear h
 have HZ : Hid (∀ x y, orZ x y = if x = 0 then y else x) := Lib.hid fun _ _ => rfl
 go_enter Tryz.func92, Tryz.ntmps92
 go_upto_region 3 with fail
 go_loopw [8] (fun s8 wr => ∃ i : Nat, s8 = .int .i64 i ∧ i ≤ 2 ∧ wr = w ∧ (0 < i → x = 0) ∧ (1 < i → y = 0)) (fun s8 _ => 2 - (intOf s8).toNat)
 case atStart => exact ⟨0, by go_num, by omega, by trivial, by omega, by omega⟩
 case round =>
  obtain ⟨i, rfl, hi, rfl, h0, h1⟩ := hrel
  by_cases e2 : i = 2
  ·subst e2
   have d0 : decide (((2 : Nat) : Int) < 2) = false := by decide
   have HR : Hid (orZ x y = 0) := Lib.hid (by rw [HZ.out, if_pos (h0 (by omega))]; exact h1 (by omega))
   clear h0 h1
   go_wp2_with fail
   go_ret
   exact ⟨by rw [HR.out]; rfl, rfl⟩
  ·by_cases e1 : i = 1
   ·subst e1
    have hx := h0 (by omega)
    have d0 : decide (((1 : Nat) : Int) < 2) = true := by decide
    have HR : Hid (orZ x y = y) := Lib.hid (by rw [HZ.out, if_pos hx])
    clear h0 h1
    by_cases hy : y = 0
    ·subst hy
     go_wp2_with fail
     go_roundw
     case rel => exact ⟨2, by go_num, by omega, by trivial, by first | exact fun _ => hx | simp, by simp⟩
     case measure => simp [intOf]
    ·have d1 : (y != 0) = true := by simpa using hy
     go_wp2_with fail
     go_ret
     exact ⟨by rw [HR.out]; rfl, rfl⟩
   ·obtain rfl : i = 0 := by omega
    have d0 : decide (((0 : Nat) : Int) < 2) = true := by decide
    clear h0 h1
    by_cases hx : x = 0
    ·subst hx
     go_wp2_with fail
     go_roundw
     case rel => exact ⟨1, by go_num, by omega, by trivial, by simp, by omega⟩
     case measure => simp [intOf]
    ·have d1 : (x != 0) = true := by simpa using hx
     have HR : Hid (orZ x y = x) := Lib.hid (by rw [HZ.out, if_neg hx])
     go_wp2_with fail
     go_ret
     exact ⟨by rw [HR.out]; rfl, rfl⟩
set_option maxHeartbeats 2000000 in
theorem orE_any (b : Nat) (x y : Int) (w : World) (h : w.heap[b]? = some (.cells #[.int .i64 x, .int .i64 y] 25 (0, 0))) :
  Calls Tryz.prog 87 #[.slice (some ⟨b, 0, none⟩) 2 2] w fun e w' => e = .returned (.int .i64 (orZ x y)) ∧ w = w' := by
 obtain ⟨k0, k1⟩ := cell2_of h
 clear h
 have HZ : Hid (∀ x y, orZ x y = if x = 0 then y else x) := Lib.hid fun _ _ => rfl
 go_enter Tryz.func87, Tryz.ntmps87
 go_upto_region 3 with fail
 go_loopw [8] (fun s8 wr => ∃ i : Nat, s8 = .int .i64 i ∧ i ≤ 2 ∧ wr = w ∧ (0 < i → x = 0) ∧ (1 < i → y = 0)) (fun s8 _ => 2 - (intOf s8).toNat)
 case atStart => exact ⟨0, by go_num, by omega, by trivial, by omega, by omega⟩
 case round =>
  obtain ⟨i, rfl, hi, rfl, h0, h1⟩ := hrel
  by_cases e2 : i = 2
  ·subst e2
   have d0 : decide (((2 : Nat) : Int) < 2) = false := by decide
   have HR : Hid (orZ x y = 0) := Lib.hid (by rw [HZ.out, if_pos (h0 (by omega))]; exact h1 (by omega))
   clear h0 h1
   go_wp2_with fail
   go_ret
   exact ⟨by rw [HR.out]; rfl, rfl⟩
  ·by_cases e1 : i = 1
   ·subst e1
    have hx := h0 (by omega)
    have d0 : decide (((1 : Nat) : Int) < 2) = true := by decide
    have HR : Hid (orZ x y = y) := Lib.hid (by rw [HZ.out, if_pos hx])
    clear h0 h1
    by_cases hy : y = 0
    ·subst hy
     go_wp2_with fail
     go_roundw
     case rel => exact ⟨2, by go_num, by omega, by trivial, by first | exact fun _ => hx | simp, by simp⟩
     case measure => simp [intOf]
    ·have d1 : (y != 0) = true := by simpa using hy
     go_wp2_with fail
     go_ret
     exact ⟨by rw [HR.out]; rfl, rfl⟩
   ·obtain rfl : i = 0 := by omega
    have d0 : decide (((0 : Nat) : Int) < 2) = true := by decide
    clear h0 h1
    by_cases hx : x = 0
    ·subst hx
     go_wp2_with fail
     go_roundw
     case rel => exact ⟨1, by go_num, by omega, by trivial, by simp, by omega⟩
     case measure => simp [intOf]
    ·have d1 : (x != 0) = true := by simpa using hx
     have HR : Hid (orZ x y = x) := Lib.hid (by rw [HZ.out, if_neg hx])
     go_wp2_with fail
     go_ret
     exact ⟨by rw [HR.out]; rfl, rfl⟩
theorem grow3 (W : World) (A B C : Obj) : ((W.alloc A).alloc B).drew.alloc C = grow (W.drewN 1) #[A, B, C] := by
 rw [Go.Sort.alloc_eq_grow W A, Go.Sort.alloc_eq_grow _ B, Go.Sort.grow_grow, Go.Sort.drew_grow, Go.Sort.alloc_eq_grow _ C, Go.Sort.grow_grow]
 rfl
/-- How two keys stand to one another. -/
def cfK (x y : K13) : Int := orZ (cmpZ x.1 y.1) (cmpZ x.2 y.2)
set_option maxHeartbeats 4000000 in
theorem ahead_any (x y : K13) (W : World) :
  Calls Tryz.prog 55 #[.agg #[.int .u8 x.1, .int .i64 x.2], .agg #[.int .u8 y.1, .int .i64 y.2]] W fun e w' => e = .returned (.int .i64 (cfK x y)) ∧ ∃ q os, w' = grow (W.drewN q) os := by
 have h0 : ((W.alloc (.cells #[.int .u8 x.1, .int .i64 x.2] 102)).alloc (.cells #[.int .u8 y.1, .int .i64 y.2] 102)).heap[W.heap.size]? = some (.cells #[.int .u8 x.1, .int .i64 x.2] 102) := (heap_alloc_lt (W.alloc (.cells #[.int .u8 x.1, .int .i64 x.2] 102)) (.cells #[.int .u8 y.1, .int .i64 y.2] 102) (by simp)).trans (heap_alloc_self W (.cells #[.int .u8 x.1, .int .i64 x.2] 102))
 have h1 : ((W.alloc (.cells #[.int .u8 x.1, .int .i64 x.2] 102)).alloc (.cells #[.int .u8 y.1, .int .i64 y.2] 102)).heap[W.heap.size + 1]? = some (.cells #[.int .u8 y.1, .int .i64 y.2] 102) := by
  have h := heap_alloc_self (W.alloc (.cells #[.int .u8 x.1, .int .i64 x.2] 102)) (.cells #[.int .u8 y.1, .int .i64 y.2] 102)
  rw [World.size_alloc] at h
  exact h
 have hQ : ∃ q, q = (W.alloc (.cells #[.int .u8 x.1, .int .i64 x.2] 102)).alloc (.cells #[.int .u8 y.1, .int .i64 y.2] 102) := ⟨_, rfl⟩
 go_enter Tryz.func55, Tryz.ntmps55
 go_upto_region 1 with fail
 obtain ⟨q, hq⟩ := hQ
 rw [← hq] at h0 h1 ⊢
 have X0 := Lib.hid h0
 have X1 := Lib.hid h1
 clear h0 h1
 refine wp_region_held_drew (S := fun v => Below q.heap.size q v) (by kernel_rfl) ((Below.refl q.heap.size q).drew) (fun hHeld => ?_)
 refine tk 0 hHeld ?_;refine tkc 1 hHeld (fun w' hSw => cell2_of ((hSw.block _ (heap_lt X0.out)).trans X0.out)) ?_;refine tk 2 hHeld ?_;refine tkc 3 hHeld (fun w' hSw => cell2_of ((hSw.block _ (heap_lt X1.out)).trans X1.out)) ?_;refine tk 5 hHeld ?_;refine tkc 6 hHeld (fun w' hSw => cell2_of ((hSw.block _ (heap_lt X0.out)).trans X0.out)) ?_;refine tk 7 hHeld ?_;refine tkc 8 hHeld (fun w' hSw => cell2_of ((hSw.block _ (heap_lt X1.out)).trans X1.out)) ?_
 have tb := (Below.refl q.heap.size q).drew
 have HQ : Hid (q.drew = ((W.alloc (.cells #[.int .u8 x.1, .int .i64 x.2] 102)).alloc (.cells #[.int .u8 y.1, .int .i64 y.2] 102)).drew) := Lib.hid (by rw [hq])
 generalize q.drew = q0 at tb HQ hHeld ⊢
 have HS := Lib.hid tb
 clear tb hq
 refine tkr 4 (fun K hK => ?_)
 go_simp
 refine (compare8_any _ _ _).mono ?_
 rintro e wS ⟨rfl, rfl⟩
 try go_wp2_with fail
 refine hK.out _ _ ?_ fun hHeld => ?_;exact HS.out;clear hK K;try simp only [zn, Act.put]
 refine tkr 9 (fun K hK => ?_)
 go_simp
 refine (compare7_any _ _ _).mono ?_
 rintro e wS ⟨rfl, rfl⟩
 try go_wp2_with fail
 refine hK.out _ _ ?_ fun hHeld => ?_;exact HS.out;clear hK K;try simp only [zn, Act.put]
 refine tkr 10 (fun K hK => ?_)
 go_simp
 have tb := HS.out.alloc HS.out.size (.cells #[.int .i64 (cmpZ x.1 y.1), .int .i64 (cmpZ x.2 y.2)] 3)
 have tx := heap_alloc_self q0 (.cells #[.int .i64 (cmpZ x.1 y.1), .int .i64 (cmpZ x.2 y.2)] 3)
 refine hK.out _ _ ?_ fun hHeld => ?_;exact tb;clear hK K;try simp only [zn, Act.put]
 have EQ : Hid (q0.alloc (.cells #[.int .i64 (cmpZ x.1 y.1), .int .i64 (cmpZ x.2 y.2)] 3) = grow (W.drewN 1) #[.cells #[.int .u8 x.1, .int .i64 x.2] 102, .cells #[.int .u8 y.1, .int .i64 y.2] 102, .cells #[.int .i64 (cmpZ x.1 y.1), .int .i64 (cmpZ x.2 y.2)] 3]) := Lib.hid (by rw [HQ.out]; exact grow3 ..)
 generalize q0.alloc (.cells #[.int .i64 (cmpZ x.1 y.1), .int .i64 (cmpZ x.2 y.2)] 3) = q1 at tb tx EQ hHeld ⊢
 generalize q0.heap.size = p at tx ⊢
 have HS1 := Lib.hid tb
 have X2 := Lib.hid tx
 clear tb tx HS HQ
 refine tkr 11 (fun K hK => ?_)
 go_simp
 refine (orI_any p _ _ q1 X2.out).mono ?_
 rintro e wS ⟨rfl, rfl⟩
 try go_wp2_with fail
 refine hK.out _ _ ?_ fun hHeld => ?_;exact HS1.out;clear hK K;try simp only [zn, Act.put]
 refine tk 12 hHeld ?_
 refine wpAnyH_done (by kernel_rfl) ?_ _
 go_wp2_with fail
 go_ret
 exact ⟨rfl, 1, _, EQ.out⟩

theorem infoElem13 : (Tryz.prog.info? 108).map (·.size) = some 7 := by kernel_rfl
set_option maxHeartbeats 4000000 in
theorem only_any (u2 u3 u4 u5 : Value) (w : World) (c2 : u2.oneCell' = true) (c3 : u3.oneCell' = true) (c4 : u4.oneCell' = true) (c5 : u5.oneCell' = true) :
  Calls Tryz.prog 116 #[.agg #[.int .i64 0, .int .i64 0, u2, u3, u4, u5]] w fun e w' => e = .returned (.agg #[.int .i64 0, .int .i64 0, u2, u3, u4, u5, fnV w.heap.size]) ∧ w'.heap[w.heap.size]? = some (.cells #[.int .i64 0, .int .i64 0, u2, u3, u4, u5] 33 (0, 0)) ∧ w.heap.size < w'.heap.size ∧ Below w.heap.size w w' := by
 have x0 : ((w.alloc (.cells #[.int .i64 0, .int .i64 0, u2, u3, u4, u5] 33)).alloc (.cells #[.int .i64 0, .int .i64 0, .slice none 0 0, .slice none 0 0, .slice none 0 0, .slice none 0 0, .nilFunc] 108)).heap[w.heap.size]? = some (.cells #[.int .i64 0, .int .i64 0, u2, u3, u4, u5] 33 (0, 0)) := (heap_alloc_lt _ _ (by simp)).trans (heap_alloc_self w (.cells #[.int .i64 0, .int .i64 0, u2, u3, u4, u5] 33))
 have x1 : ((w.alloc (.cells #[.int .i64 0, .int .i64 0, u2, u3, u4, u5] 33)).alloc (.cells #[.int .i64 0, .int .i64 0, .slice none 0 0, .slice none 0 0, .slice none 0 0, .slice none 0 0, .nilFunc] 108)).heap[w.heap.size + 1]? = some (.cells #[.int .i64 0, .int .i64 0, .slice none 0 0, .slice none 0 0, .slice none 0 0, .slice none 0 0, .nilFunc] 108 (0, 0)) := by
  have h := heap_alloc_self (w.alloc (.cells #[.int .i64 0, .int .i64 0, u2, u3, u4, u5] 33)) (.cells #[.int .i64 0, .int .i64 0, .slice none 0 0, .slice none 0 0, .slice none 0 0, .slice none 0 0, .nilFunc] 108)
  rw [World.size_alloc] at h
  exact h
 have hb : Below w.heap.size w ((w.alloc (.cells #[.int .i64 0, .int .i64 0, u2, u3, u4, u5] 33)).alloc (.cells #[.int .i64 0, .int .i64 0, .slice none 0 0, .slice none 0 0, .slice none 0 0, .slice none 0 0, .nilFunc] 108)) := ((Below.refl _ w).alloc (Nat.le_refl _) _).alloc (by simp) _
 go_enter Tryz.func116, Tryz.ntmps116
 go_upto_region 1 with fail
 generalize (w.alloc (.cells #[.int .i64 0, .int .i64 0, u2, u3, u4, u5] 33)).alloc (.cells #[.int .i64 0, .int .i64 0, .slice none 0 0, .slice none 0 0, .slice none 0 0, .slice none 0 0, .nilFunc] 108) = q at x0 x1 hb ⊢
 have X0 := Lib.hid x0
 have X1 := Lib.hid x1
 have B0 := Lib.hid hb
 obtain ⟨k0, k1, k2, k3, k4, k5⟩ := cell6_of x0
 clear x0 x1 hb
 have S0 : Hid ((q.setRow (w.heap.size + 1) #[.int .i64 0, .int .i64 0, u2, u3, u4, u5, fnV w.heap.size]).heap[w.heap.size]? = some (.cells #[.int .i64 0, .int .i64 0, u2, u3, u4, u5] 33 (0, 0))) := Lib.hid ((setRow_other _ _ _ _ (by omega)).trans X0.out)
 have S1 : Hid ((q.setRow (w.heap.size + 1) #[.int .i64 0, .int .i64 0, u2, u3, u4, u5, fnV w.heap.size]).heap[w.heap.size + 1]? = some (.cells #[.int .i64 0, .int .i64 0, u2, u3, u4, u5, fnV w.heap.size] 108 (0, 0))) := Lib.hid (setRow_heap q _ _ #[.int .i64 0, .int .i64 0, u2, u3, u4, u5, fnV w.heap.size] 108 _ X1.out)
 have S2 : Hid (Below w.heap.size w (q.setRow (w.heap.size + 1) #[.int .i64 0, .int .i64 0, u2, u3, u4, u5, fnV w.heap.size])) := Lib.hid (below_setRow B0.out (by omega) #[.int .i64 0, .int .i64 0, u2, u3, u4, u5, fnV w.heap.size])
 go_wp2_with ((with_reducible show wpList _ _ _ (⟨none, _, _, _, _, _⟩ :: _) _ _); refine wpList_store_rowS rfl _ (.tmp 2) (.tmp 5) rfl (w.heap.size + 1) rfl (c' := #[.int .i64 0, .int .i64 0, u2, u3, u4, u5, fnV w.heap.size]) rfl X1.out infoElem13 rfl (by simp only [Value.oneCell'] at c2 c3 c4 c5; simp [Value.oneCell', fnV]; exact ⟨c2, c3, c4, c5⟩) ?_)
 generalize q.setRow (w.heap.size + 1) #[.int .i64 0, .int .i64 0, u2, u3, u4, u5, fnV w.heap.size] = r at S0 S1 S2 ⊢
 obtain ⟨l0, l1, l2, l3, l4, l5, l6⟩ := cell7_of S1.out
 go_wp2_with fail
 refine bodyPost_ret (results_cell_row rfl _ _ (w.heap.size + 1) 108 #[.int .i64 0, .int .i64 0, u2, u3, u4, u5, fnV w.heap.size] (0, 0) _ rfl S1.out Tryz.underlying108 rfl (by simpa using infoElem13)) rfl ?_
 exact ⟨rfl, S0.out, heap_lt S0.out, S2.out⟩
theorem cellK_of {w : World} {b : Nat} {c : Array Value} {t : TypeId} {fr : Nat × Nat} (h : w.heap[b]? = some (.cells c t fr)) (k : Nat) {v : Value} (hk : c[k]? = some v) : w.cell? ⟨b, k, none⟩ = some v := by
 simp [World.cell?, h, hk]
set_option maxHeartbeats 4000000 in
theorem holds_any (hp : PlanSaid) (B : Nat) (u2 u3 u4 u5 z2 z3 z4 z5 g : Value) (x y : Any13) (w : World) (hB : w.heap[B]? = some (.cells #[.int .i64 0, .int .i64 0, u2, u3, u4, u5] 33 (0, 0))) (h : PlIn w w.heap.size u2 u3 u4 u5 (aloneP x)) (h' : PlIn w w.heap.size z2 z3 z4 z5 (aloneP y)) :
  Calls Tryz.prog 129 #[.agg #[.int .i64 0, .int .i64 0, z2, z3, z4, z5, g], .pointer (some ⟨B, 0, none⟩)] w fun e w' => e = .returned (.bool (eqB x y)) ∧ Below w.heap.size w w' := by
 have hlt := heap_lt hB
 have x1 := heap_alloc_self w (.cells #[.int .i64 0, .int .i64 0, z2, z3, z4, z5, g] 108)
 have x0 := (heap_alloc_lt w (.cells #[.int .i64 0, .int .i64 0, z2, z3, z4, z5, g] 108) hlt).trans hB
 have hb := below_new w (.cells #[.int .i64 0, .int .i64 0, z2, z3, z4, z5, g] 108)
 clear hB
 go_enter Tryz.func129, Tryz.ntmps129
 go_upto_region 1 with fail
 generalize w.alloc (.cells #[.int .i64 0, .int .i64 0, z2, z3, z4, z5, g] 108) = q at x0 x1 hb ⊢
 have B0 := Lib.hid hb
 have I0 := Lib.hid ((h.below hb).more hb.size)
 have I1 := Lib.hid ((h'.below hb).more hb.size)
 obtain ⟨k0, k1, k2, k3, k4, k5⟩ := cell6_of x0
 obtain ⟨l0, l1, l2, l3, l4, l5, l6⟩ := cell7_of x1
 clear x0 x1 hb h h'
 go_wp2_with fail
 refine (hp.same _ _ (aloneP x) (aloneP y) q ⟨_, _, _, _, by rw [(alone_ver x).1, (alone_ver x).2], I0.out⟩ ⟨_, _, _, _, by rw [(alone_ver y).1, (alone_ver y).2], I1.out⟩).mono ?_
 rintro e w1 ⟨rfl, b1⟩
 rw [alone_eq]
 have B1 := Lib.hid (B0.out.trans (b1.mono B0.out.size))
 clear b1
 go_wp2_with fail
 go_ret
 exact ⟨rfl, B1.out⟩
theorem equalIn_none13 {P : Program} (d : Nat) (t : TypeId) {a b : Array TypeId} {c : Bool} (h : P.underlying t = some (.func a b c)) (w : World) : (Op.equalIn (d + 1) t .nilFunc .nilFunc).run P w = .ok true w := by
 simp [Op.equalIn, run_underlying h]
theorem equalIn_fn13 {P : Program} (d : Nat) (t : TypeId) {a b : Array TypeId} {c : Bool} (h : P.underlying t = some (.func a b c)) (f : Fn) (x y : Array Value) (w : World) : (Op.equalIn (d + 1) t (.func f x y) .nilFunc).run P w = .ok false w := by
 simp [Op.equalIn, run_underlying h]
theorem eql_none13 (w : World) : (binOp .eql 106 .nilFunc .nilFunc).run Tryz.prog w = .ok (.bool true) w := by
 have h : (Op.equal 106 .nilFunc .nilFunc).run Tryz.prog w = .ok true w := equalIn_none13 9999 106 Tryz.underlying106 w
 simp only [binOp]
 simp [h]
theorem eql_fn13 (B : Nat) (w : World) : (binOp .eql 106 (.func (.func 129) #[] #[.pointer (some ⟨B, 0, none⟩)]) .nilFunc).run Tryz.prog w = .ok (.bool false) w := by
 have h : (Op.equal 106 (.func (.func 129) #[] #[.pointer (some ⟨B, 0, none⟩)]) .nilFunc).run Tryz.prog w = .ok false w := equalIn_fn13 9999 106 Tryz.underlying106 _ _ _ w
 simp only [binOp]
 simp [h]
set_option maxHeartbeats 4000000 in
theorem became_any (hp : PlanSaid) (v : Value) (x y : Any13) (w : World) (h : PairV w w.heap.size v x y) :
  Calls Tryz.prog 56 #[v] w fun e w' => e = .returned (.int .u8 (becomeV x y)) ∧ Below w.heap.size w w' := by
 obtain ⟨u2, u3, u4, u5, f, z2, z3, z4, z5, g, rfl, hx, hy⟩ := h
 have x0 := heap_alloc_self w (.cells #[.int .i64 0, .int .i64 0, u2, u3, u4, u5, f, .int .i64 0, .int .i64 0, z2, z3, z4, z5, g] 110)
 have hb := below_new w (.cells #[.int .i64 0, .int .i64 0, u2, u3, u4, u5, f, .int .i64 0, .int .i64 0, z2, z3, z4, z5, g] 110)
 go_enter Tryz.func56, Tryz.ntmps56
 go_upto_region 1 with fail
 generalize w.alloc (.cells #[.int .i64 0, .int .i64 0, u2, u3, u4, u5, f, .int .i64 0, .int .i64 0, z2, z3, z4, z5, g] 110) = q at x0 hb ⊢
 have B0 := Lib.hid hb
 have C0 := Lib.hid ((hx.same (below_same hb)).more hb.size)
 have C1 := Lib.hid ((hy.same (below_same hb)).more hb.size)
 have kf : q.cell? ⟨w.heap.size, 6, none⟩ = some f := cellK_of x0 6 rfl
 have kg : q.cell? ⟨w.heap.size, 13, none⟩ = some g := cellK_of x0 13 rfl
 have X0 := Lib.hid x0
 clear x0 hb hx hy
 have E0 := eql_none13
 have E1 := eql_fn13
 rcases C0.out.fn with ⟨e0, rfl⟩ | ⟨e0, P, rfl, hP, bP⟩
 ·have HV := Lib.hid (become_added (y := y) e0)
  clear e0
  go_wp2_with fail
  go_ret
  exact ⟨by rw [HV.out]; rfl, B0.out⟩
 have kf2 : q.cell? ⟨w.heap.size, 6, none⟩ = some (.func (.func 129) #[] #[.pointer (some ⟨P, 0, none⟩)]) := kf
 clear kf
 have E2 := E1 P q
 rcases C1.out.fn with ⟨e1, rfl⟩ | ⟨e1, P', rfl, hP', bP'⟩
 ·have HV := Lib.hid (become_removed e0 e1)
  clear e0 e1 hP bP
  go_wp2_with fail
  go_ret
  exact ⟨by rw [HV.out]; rfl, B0.out⟩
 have kg2 : q.cell? ⟨w.heap.size, 13, none⟩ = some (.func (.func 129) #[] #[.pointer (some ⟨P', 0, none⟩)]) := kg
 clear kg
 have E3 := E1 P' q
 have HV := Lib.hid (become_both e0 e1)
 have XP := Lib.hid bP
 have k7 : q.cell? ⟨w.heap.size, 7, none⟩ = some (.int .i64 0) := cellK_of X0.out 7 rfl
 have k8 : q.cell? ⟨w.heap.size, 8, none⟩ = some (.int .i64 0) := cellK_of X0.out 8 rfl
 have k9 : q.cell? ⟨w.heap.size, 9, none⟩ = some (z2) := cellK_of X0.out 9 rfl
 have k10 : q.cell? ⟨w.heap.size, 10, none⟩ = some (z3) := cellK_of X0.out 10 rfl
 have k11 : q.cell? ⟨w.heap.size, 11, none⟩ = some (z4) := cellK_of X0.out 11 rfl
 have k12 : q.cell? ⟨w.heap.size, 12, none⟩ = some (z5) := cellK_of X0.out 12 rfl
 clear e0 e1 hP bP hP' bP'
 go_wp2_with fail
 refine (holds_any hp P u2 u3 u4 u5 z2 z3 z4 z5 (fnV P') x y q XP.out C0.out.plan C1.out.plan).mono ?_
 rintro e w1 ⟨rfl, b1⟩
 have B1 := Lib.hid (B0.out.trans (b1.mono B0.out.size))
 rw [show eqB x y = eqB x y from rfl] at HV
 clear b1
 generalize eqB x y = ev at HV ⊢
 cases ev
 ·go_wp2_with fail
  go_ret
  exact ⟨by rw [HV.out]; rfl, B1.out⟩
 ·go_wp2_with fail
  go_ret
  exact ⟨by rw [HV.out]; rfl, B1.out⟩
end Go.Proofs.YtneeocnjfnneoaaGreat
