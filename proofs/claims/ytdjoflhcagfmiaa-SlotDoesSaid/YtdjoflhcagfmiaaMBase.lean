/-
  What it means that a slice of bytes reads as a text, and how that lasts while other memory changes.
  Conditions: none.
-/
import Derived.Below
import Derived.Laws.OwnMore
import Derived.RangeFuncBox
import Derived.Deep.Draws
import Derived.Laws.AppendOwn
import Derived.Laws.AppendOwnNone
import Derived.OwnWalk
import Derived.Test.YtdjoflhcagfmiaaRows
import Derived.ProofKit
import Derived.OpenShut
import Derived.ShutString
import Derived.ChangeOld
import Derived.Laws.Rows
import Derived.Laws.BytesString
import Derived.Laws.IdiomStrings
import Derived.WalkKit
import Derived.Deep.MidRow
import Derived.Laws.Tables
import Derived.Deep.WholeRow
import Derived.Laws.CopyOwn
import Derived.Laws.MakeOwn
import Derived.Test.YtdjoflhcagfmiaaCrcMath
import Derived.Lib.Hide
import Derived.IntWalk
import Derived.Laws.BitsAll
import Derived.Laws.BitsAllLaws
import Derived.Deep.DeepMust
import Derived.Deep.LoopGhost
import Derived.Laws.ResultCell
import Derived.Laws.NewBlocks
import Derived.Lib.SlBytesConst
import Derived.Deep.RegionHeld
import Derived.RangeFuncNested
import Derived.OrdersIn
set_option linter.unusedVariables false
set_option linter.unusedSimpArgs false
set_option maxRecDepth 100000
namespace Go.Proofs.Ytdjoflhcagfmiaa
open Go.RowKit

def u8 (b : UInt8) : Value := .int .u8 (b.toNat : Int)

/-- The slice v reads as the bytes xs, all of them in a block below B. -/
def Txt (W : World) (B : Nat) (v : Value) (xs : List UInt8) : Prop :=
  ∃ (A : Option Addr) (cap : Nat), v = .slice A xs.length cap ∧ xs.length ≤ cap ∧ cap ≤ maxLen ∧ (A = none → cap = 0) ∧
    (0 < xs.length → ∃ b off, A = some ⟨b, off, none⟩ ∧ b < B ∧ ∀ j (h : j < xs.length), W.cell? ⟨b, off + j, none⟩ = some (u8 xs[j]))

theorem Txt.nil_ (W : World) (B : Nat) : Txt W B (.slice none 0 0) [] := ⟨none, 0, rfl, Nat.le_refl _, Nat.zero_le _, fun _ => rfl, fun h => absurd h (by simp)⟩
theorem Txt.le {W : World} {B : Nat} {v : Value} {xs : List UInt8} (h : Txt W B v xs) : xs.length ≤ maxLen := by
  obtain ⟨A, cap, _, h1, h2, _, _⟩ := h; omega
theorem Txt.keep {W W' : World} {B : Nat} {v : Value} {xs : List UInt8} (h : Txt W B v xs) (hk : ∀ b o, b < B → W'.cell? ⟨b, o, none⟩ = W.cell? ⟨b, o, none⟩) : Txt W' B v xs := by
  obtain ⟨A, cap, h0, h1, h2, hn, h3⟩ := h
  refine ⟨A, cap, h0, h1, h2, hn, fun hp => ?_⟩
  obtain ⟨b, off, ha, hb, hc⟩ := h3 hp
  exact ⟨b, off, ha, hb, fun j hj => (hk _ _ hb).trans (hc j hj)⟩
theorem Txt.below {W W' : World} {B : Nat} {v : Value} {xs : List UInt8} (h : Txt W B v xs) (hb : Below B W W') : Txt W' B v xs := h.keep fun b o hlt => hb.cell (p := ⟨b, o, none⟩) hlt
theorem Txt.more {W : World} {B B' : Nat} {v : Value} {xs : List UInt8} (h : Txt W B v xs) (hB : B ≤ B') : Txt W B' v xs := by
  obtain ⟨A, cap, h0, h1, h2, hn, h3⟩ := h
  refine ⟨A, cap, h0, h1, h2, hn, fun hp => ?_⟩
  obtain ⟨b, off, ha, hb, hc⟩ := h3 hp
  exact ⟨b, off, ha, by omega, hc⟩
theorem Txt.own {W : World} {base e : Nat} {v : Value} {xs : List UInt8} (hl : xs.length ≤ maxLen) (h : W.ownsRow base e 1 v xs.length (xs.map u8)) : Txt W W.heap.size v xs := by
  rcases h.2 with ⟨rfl, h0⟩ | ⟨g, cap, cur, rfl, _, hgb, hcap, hcur⟩
  · obtain rfl : xs = [] := List.eq_nil_of_length_eq_zero (by simpa using h0)
    exact Txt.nil_ _ _
  · refine ⟨_, cap, rfl, hcap, hcur.1, fun h => (by cases h), fun _ => ⟨g, 0, rfl, (Array.getElem?_eq_some_iff.1 hgb).1, fun j hj => ?_⟩⟩
    rw [Nat.zero_add, h.cellAt j (by omega), List.getElem?_map, List.getElem?_eq_getElem hj]
    rfl

theorem u8_oneCell (b : UInt8) : (u8 b).oneCell' = true := rfl
theorem u8s_oneCell (xs : List UInt8) : ∀ u ∈ xs.map u8, u.oneCell' = true := fun u hu => by
  obtain ⟨b, _, rfl⟩ := List.mem_map.1 hu
  rfl
/-- A text's cells, at an address. -/
theorem Txt.cells {W : World} {B : Nat} {a : Addr} {cap : Nat} {xs : List UInt8} (h : Txt W B (.slice (some a) xs.length cap) xs) : ∀ j u, (xs.map u8)[j]? = some u → W.cell? (a.add j) = some u := by
  obtain ⟨A, cap', e, _, _, _, h3⟩ := h
  cases e
  intro j u hj
  obtain ⟨hlt, he⟩ := List.getElem?_eq_some_iff.1 hj
  rw [List.length_map] at hlt
  obtain ⟨b, off, hA, _, hc⟩ := h3 (by omega)
  cases hA
  rw [Addr.add_lit, hc j hlt, ← he, List.getElem_map]

/-- append(own, text...): the row of the call's own, longer by the text. -/
theorem run_append_txt {P : Program} {w : World} {base t ty e : Nat} {i : TypeInfo} (ht : P.underlying t = some (.slice e)) (hi : P.info? e = some i) (hz : i.zero = some (.int .u8 0)) (hsize : i.size = 1) (hby : i.bytes = 1)
    {v : Value} {n : Nat} {ys : List Value} (hown : w.ownsRow base e 1 v n ys) {B : Nat} {x : Value} {xs : List UInt8} (hx : Txt w B x xs) (h63 : n + xs.length ≤ 140737488355328) (hbase : base ≤ w.heap.size) :
    ∃ v' w', (Builtin.append_ #[t, t] ty #[v, x]).run P w = .ok v' w' ∧ w'.ownsRow base e 1 v' (n + xs.length) (ys ++ xs.map u8) ∧ w.grownBy w' v.ownBlock := by
  obtain ⟨A, cap, rfl, h1, h2, hn, h3⟩ := id hx
  cases A with
  | none =>
    obtain rfl := hn rfl
    obtain rfl : xs = [] := List.eq_nil_of_length_eq_zero (by omega)
    exact ⟨v, w, run_append_owned_none (P := P) (w := w) base t ty e i 1 ht hi v n ys hown, by simpa using hown, World.grownBy.refl w _⟩
  | some a =>
    obtain ⟨v', w', hr, ho, hg, _⟩ := run_append_own (P := P) w base t ty e i (.int .u8 0) 1 1 ht hi hz hsize hby rfl (by decide) v n ys hown a xs.length cap (xs.map u8) (by simp) hx.cells (u8s_oneCell xs) (by unfold maxLen; omega) (by omega) hbase
    exact ⟨v', w', hr, ho, hg⟩

theorem wpList_append_txt {P : Program} {w : World} {ops : Array Oper} {rest : List Oper} {o : Oper} {a : Act} {Q : Exit → Act → World → Prop} (hgd : o.guard = none) (s x : Operand) (t : TypeId)
    (ho : o.op = .call { callee := .builtin .append, args := #[s, x], argTypes := #[t, t] })
    {base e : Nat} {i : TypeInfo} (ht : P.underlying t = some (.slice e)) (hi : P.info? e = some i) (hz : i.zero = some (.int .u8 0)) (hsize : i.size = 1) (hby : i.bytes = 1)
    {v : Value} {n : Nat} {ys : List Value} (hs : a.eval s = v) (hown : w.ownsRow base e 1 v n ys) {B : Nat} {u : Value} {xs : List UInt8} (hu : a.eval x = u) (hx : Txt w B u xs) (h63 : n + xs.length ≤ 140737488355328) (hbase : base ≤ w.heap.size)
    (h : ∀ v' w', w'.ownsRow base e 1 v' (n + xs.length) (ys ++ xs.map u8) → w.grownBy w' v.ownBlock → wpList P ops Q rest (a.put o.dst v') w') : wpList P ops Q (o :: rest) a w := by
  refine wpList_plain hgd fun K hK => ?_
  obtain ⟨v', w', hrun, h2, h3⟩ := run_append_txt (ty := o.type) ht hi hz hsize hby hown hx h63 hbase
  unfold Oper.wp execOp
  simp only [ho, resolve, invoke, builtin, Sem.run_bind, Sem.run_pure, Result.andThen_ok, List.map_toArray, List.map_cons, List.map_nil, hs, hu, hrun]
  exact hK _ _ (h v' w' h2 h3)
end Go.Proofs.Ytdjoflhcagfmiaa

/-
  What comes of a disk's sectors, as mathematics: pieces laid one after the other.
  Conditions: none.
-/
set_option linter.unusedVariables false
set_option linter.unusedSimpArgs false
set_option maxRecDepth 100000
namespace Go.Proofs.Ytdjoflhcagfmiaa
abbrev Bs := List UInt8
abbrev Wr := Int × Bs

/-- A piece laid on a sector. -/
def lay (s p : Bs) : Bs := p ++ s.drop p.length
/-- Pieces laid, each on its own sector. -/
def layAll (ss : List Bs) (ps : List (Nat × Bs)) : List Bs := ps.foldl (fun ss p => ss.modify p.1 (fun s => lay s p.2)) ss
/-- The pieces of writes, by how much is kept of each. -/
def piecesOf (ws : List Wr) (ks : List Nat) : List (Nat × Bs) := List.zipWith (fun w k => (w.1.toNat, w.2.take k)) ws ks

def okW (w : Wr) : Prop := 0 ≤ w.1 ∧ w.1 < 32 ∧ w.2.length = 128
/-- A disk may be. -/
structure May (ss : List Bs) (ws : List Wr) : Prop where
  n : ss.length = 32
  m : ws.length ≤ 256
  s : ∀ x ∈ ss, x.length = 128
  w : ∀ x ∈ ws, okW x

theorem lay_length {s p : Bs} (h : p.length ≤ s.length) : (lay s p).length = s.length := by
  simp only [lay, List.length_append, List.length_drop]; omega
theorem lay_nil (s : Bs) : lay s [] = s := rfl
theorem lay_whole {s p : Bs} (h : s.length ≤ p.length) : lay s p = p := by
  simp only [lay, List.drop_eq_nil_of_le h, List.append_nil]
theorem lay_own (s : Bs) (k : Nat) : lay s (s.take k) = s := by
  unfold lay
  rw [List.length_take]
  rcases Nat.le_total k s.length with h | h
  · rw [Nat.min_eq_left h, List.take_append_drop]
  · rw [Nat.min_eq_right h, List.take_of_length_le h, List.drop_length, List.append_nil]
theorem layAll_nil (ss : List Bs) : layAll ss [] = ss := rfl
theorem layAll_cons (ss : List Bs) (p : Nat × Bs) (ps : List (Nat × Bs)) : layAll ss (p :: ps) = layAll (ss.modify p.1 (fun s => lay s p.2)) ps := rfl
theorem layAll_append (ss : List Bs) (ps qs : List (Nat × Bs)) : layAll ss (ps ++ qs) = layAll (layAll ss ps) qs := by simp [layAll, List.foldl_append]
theorem layAll_snoc (ss : List Bs) (ps : List (Nat × Bs)) (p : Nat × Bs) : layAll ss (ps ++ [p]) = (layAll ss ps).modify p.1 (fun s => lay s p.2) := by rw [layAll_append]; rfl
theorem layAll_length (ss : List Bs) (ps : List (Nat × Bs)) : (layAll ss ps).length = ss.length := by
  induction ps generalizing ss with
  | nil => rfl
  | cons p ps ih => rw [layAll_cons, ih, List.length_modify]

/-- One sector behind pieces. -/
def seeAll (s : Bs) (at_ : Nat) (ps : List (Nat × Bs)) : Bs := ps.foldl (fun s p => if p.1 = at_ then lay s p.2 else s) s
theorem seeAll_cons (s : Bs) (a : Nat) (p : Nat × Bs) (ps : List (Nat × Bs)) : seeAll s a (p :: ps) = seeAll (if p.1 = a then lay s p.2 else s) a ps := rfl
theorem seeAll_append (s : Bs) (a : Nat) (ps qs : List (Nat × Bs)) : seeAll s a (ps ++ qs) = seeAll (seeAll s a ps) a qs := by simp [seeAll, List.foldl_append]
theorem seeAll_snoc (s : Bs) (a : Nat) (ps : List (Nat × Bs)) (p : Nat × Bs) : seeAll s a (ps ++ [p]) = if p.1 = a then lay (seeAll s a ps) p.2 else seeAll s a ps := by rw [seeAll_append]; rfl
theorem layAll_at (ss : List Bs) (ps : List (Nat × Bs)) (a : Nat) : (layAll ss ps)[a]? = ss[a]?.map fun s => seeAll s a ps := by
  induction ps generalizing ss with
  | nil => simp [layAll, seeAll]
  | cons p ps ih =>
    rw [layAll_cons, ih, List.getElem?_modify]
    cases ss[a]? with
    | none => rfl
    | some s =>
      simp only [Option.map_some, seeAll_cons, Option.map]
      by_cases h : p.1 = a <;> simp [h]
theorem seeAll_length {s : Bs} {a : Nat} {ps : List (Nat × Bs)} (h : ∀ p ∈ ps, p.2.length ≤ s.length) : (seeAll s a ps).length = s.length := by
  induction ps generalizing s with
  | nil => rfl
  | cons p ps ih =>
    rw [seeAll_cons]
    have hp := h p (by simp)
    have hl : (if p.1 = a then lay s p.2 else s).length = s.length := by split; exact lay_length hp; rfl
    rw [ih (fun q hq => by rw [hl]; exact h q (by simp [hq])), hl]
theorem layAll_sizes {ss : List Bs} {ps : List (Nat × Bs)} {n : Nat} (hs : ∀ x ∈ ss, x.length = n) (hp : ∀ p ∈ ps, p.2.length ≤ n) : ∀ x ∈ layAll ss ps, x.length = n := by
  intro x hx
  obtain ⟨i, hi⟩ := List.mem_iff_getElem?.1 hx
  rw [layAll_at] at hi
  cases h : ss[i]? with
  | none => rw [h] at hi; cases hi
  | some s =>
    rw [h] at hi
    obtain rfl := Option.some.inj hi
    have hl := hs s (List.mem_iff_getElem?.2 ⟨i, h⟩)
    rw [seeAll_length (fun p hm => by rw [hl]; exact hp p hm), hl]

/-- One byte behind pieces. -/
def byteAll (b : UInt8) (a j : Nat) (ps : List (Nat × Bs)) : UInt8 := ps.foldl (fun b p => if p.1 = a ∧ j < p.2.length then p.2.getD j 0 else b) b
theorem byteAll_snoc (b : UInt8) (a j : Nat) (ps : List (Nat × Bs)) (p : Nat × Bs) : byteAll b a j (ps ++ [p]) = if p.1 = a ∧ j < p.2.length then p.2.getD j 0 else byteAll b a j ps := by simp [byteAll, List.foldl_append]
theorem lay_at (s p : Bs) (j : Nat) : (lay s p)[j]? = if j < p.length then p[j]? else s[j]? := by
  unfold lay
  split
  · rw [List.getElem?_append_left (by assumption)]
  · rw [List.getElem?_append_right (by omega), List.getElem?_drop]; congr 1; omega
theorem seeAll_at {s : Bs} {a : Nat} {ps : List (Nat × Bs)} {j : Nat} {b : UInt8} (hb : s[j]? = some b) : (seeAll s a ps)[j]? = some (byteAll b a j ps) := by
  induction ps generalizing s b with
  | nil => exact hb
  | cons p ps ih =>
    rw [seeAll_cons]
    have : (if p.1 = a then lay s p.2 else s)[j]? = some (if p.1 = a ∧ j < p.2.length then p.2.getD j 0 else b) := by
      by_cases h : p.1 = a
      · rw [if_pos h, lay_at]
        by_cases hj : j < p.2.length
        · simp [h, hj]
        · simp [h, hj, hb]
      · simp [h, hb]
    rw [ih this]; rfl

theorem piecesOf_append (ws ws' : List Wr) (ks ks' : List Nat) (h : ws.length = ks.length) : piecesOf (ws ++ ws') (ks ++ ks') = piecesOf ws ks ++ piecesOf ws' ks' := by
  unfold piecesOf; exact List.zipWith_append h
theorem piecesOf_length (ws : List Wr) (ks : List Nat) (h : ws.length = ks.length) : (piecesOf ws ks).length = ws.length := by simp [piecesOf, h]
theorem piecesOf_at {ws : List Wr} {ks : List Nat} {i : Nat} (hi : i < ws.length) (hk : i < ks.length) : (piecesOf ws ks)[i]? = some (ws[i].1.toNat, ws[i].2.take ks[i]) := by
  simp [piecesOf, List.getElem?_zipWith, List.getElem?_eq_getElem hi, List.getElem?_eq_getElem hk]
theorem pieces_le {ws : List Wr} {ks : List Nat} (h : ∀ w ∈ ws, okW w) : ∀ p ∈ piecesOf ws ks, p.2.length ≤ 128 ∧ p.1 < 32 := by
  intro p hp
  unfold piecesOf at hp
  obtain ⟨i, hi⟩ := List.mem_iff_getElem?.1 hp
  rw [List.getElem?_zipWith] at hi
  cases hw : ws[i]? with
  | none => rw [hw] at hi; cases ks[i]? <;> cases hi
  | some w =>
    cases hk : ks[i]? with
    | none => rw [hw, hk] at hi; cases hi
    | some k =>
      rw [hw, hk] at hi
      obtain rfl := Option.some.inj hi
      obtain ⟨h0, h1, h2⟩ := h w (List.mem_iff_getElem?.2 ⟨i, hw⟩)
      simp only [List.length_take]
      omega
/-- What comes of sectors. -/
def comes (ss : List Bs) (ws : List Wr) (ks : List Nat) : List Bs := layAll ss (piecesOf ws ks)
def all128 (ws : List Wr) : List Nat := List.replicate ws.length 128
theorem may_comes {ss : List Bs} {ws : List Wr} (h : May ss ws) (ks : List Nat) : May (comes ss ws ks) [] :=
  ⟨by rw [comes, layAll_length, h.n], by simp, layAll_sizes h.s fun p hp => (pieces_le h.w p hp).1, by simp⟩
end Go.Proofs.Ytdjoflhcagfmiaa

/-
  A slice of bytes that comes in as an argument reads as a text; a text that is made; a text as a string.
  Conditions: none.
-/
set_option linter.unusedVariables false
set_option linter.unusedSimpArgs false
set_option maxRecDepth 100000
namespace Go.Proofs.Ytdjoflhcagfmiaa
open Go.ChangeShapes Go.WideShapes Go.ChangeAt Go.RowKit

/-- A text as a string. -/
theorem run_txt_string {W : World} {B : Nat} {v : Value} {xs : List UInt8} (h : Txt W B v xs) : (convert 34 9 v).run Try.prog W = .ok (.string ⟨xs.toArray⟩) W := by
  obtain ⟨A, cap, rfl, _, _, hn, _⟩ := id h
  cases A with
  | none =>
    obtain rfl := hn rfl
    have hl : xs.length = 0 := by obtain ⟨_, _, e, h1, _⟩ := h; cases e; omega
    obtain rfl : xs = [] := List.eq_nil_of_length_eq_zero hl
    rw [run_convert_bytes_string W _ _ 5 none _ 0 Try.underlying34 Try.underlying5 Try.underlying9]
    rfl
  | some a =>
    refine run_convert_bytes_back W _ _ 5 a cap xs Try.underlying34 Try.underlying5 Try.underlying9 (fun j hj => ?_)
    exact h.cells j _ (by rw [List.getElem?_map, List.getElem?_eq_getElem hj]; rfl)

theorem txt_new (w : World) (t : TypeId) (xs : List UInt8) (h : xs.length ≤ maxLen) : Txt (w.alloc (.cells (xs.map u8).toArray t)) (w.alloc (.cells (xs.map u8).toArray t)).heap.size (.slice (some ⟨w.heap.size, 0, none⟩) xs.length xs.length) xs :=
  ⟨_, _, rfl, Nat.le_refl _, h, fun e => (by cases e), fun _ => ⟨_, _, rfl, by simp, fun j hj => by
    have hn : (w.alloc (.cells (xs.map u8).toArray t)).heap[w.heap.size]? = some (.cells (xs.map u8).toArray t (0, 0)) := World.alloc_heap_new w _
    rw [Nat.zero_add, cell_of_row _ _ _ _ t (0, 0) hn]
    simp [hj]⟩⟩
theorem txt_mark (w : World) (t : TypeId) (xs : List UInt8) (fr : Nat × Nat) (h : xs.length ≤ maxLen) : Txt (w.alloc (.cells (xs.map u8).toArray t fr)) (w.alloc (.cells (xs.map u8).toArray t fr)).heap.size (.slice (some ⟨w.heap.size, 0, none⟩) xs.length xs.length) xs :=
  ⟨_, _, rfl, Nat.le_refl _, h, fun e => (by cases e), fun _ => ⟨_, _, rfl, by simp, fun j hj => by
    rw [Nat.zero_add, World.cell?_alloc_mark]
    simp [hj]⟩⟩
theorem below_new (w : World) (o : Obj) : Below w.heap.size w (w.alloc o) := (Below.refl _ w).alloc (Nat.le_refl _) o

theorem cell_lt {W : World} {p : Addr} {v : Value} (h : W.cell? p = some v) : p.block < W.heap.size := by
  rcases Nat.lt_or_ge p.block W.heap.size with hlt | hge
  · exact hlt
  · simp [World.cell?, Array.getElem?_eq_none hge] at h

set_option maxRecDepth 100000 in
theorem txt_of_arg {H : Type} {enc : TypeId × Value → H} {W : World} {base : Nat} {v : Value} {d : DataW H} {p : List MemPlace} (hval : Value.okWide Try.prog W .any base 34 v) (h : DataW.Trod enc Try.prog W 0 (fun _ => true) true 34 v d p) :
    ∃ xs, Txt W W.heap.size v xs := by
  obtain ⟨a, len, cap, rfl⟩ := okWide_slice Try.underlying34 hval
  obtain ⟨fuel, hf⟩ := h
  rcases open_ints Try.underlying34 Try.underlying5 (by kernel_rfl) hf with ⟨hcs, _⟩ | ⟨x, l, c, zs, hcs, _, hl, hm, hz, _, hcell, hwz⟩
  · simp [Value.cells] at hcs
    obtain ⟨rfl, rfl, rfl⟩ := hcs
    exact ⟨[], Txt.nil_ _ _⟩
  · simp [Value.cells] at hcs
    obtain ⟨rfl, rfl, rfl⟩ := hcs
    simp only [if_true] at hz
    have hlen : ((zs.take len).map fun n => UInt8.ofNat n.toNat).length = len := by simp; omega
    refine ⟨(zs.take len).map fun n => UInt8.ofNat n.toNat, some x, cap, by rw [hlen], by rw [hlen]; exact hl, hm, fun e => (by cases e), fun hp => ?_⟩
    rw [hlen] at hp
    obtain ⟨b, off, spot⟩ := x
    have hspot : spot = none := by simpa [Addr.add] using World.cell?_spot (hcell 0 (by omega))
    subst hspot
    refine ⟨b, off, rfl, by simpa [Addr.add] using cell_lt (hcell 0 (by omega)), fun j hj => ?_⟩
    rw [hlen] at hj
    have hcj := hcell j (by omega)
    rw [Addr.add_lit] at hcj
    rw [hcj]
    have hb := range_u8 hwz j
    have e : zs.getD j 0 = zs[j]'(by omega) := by simp [List.getD, List.getElem?_eq_getElem (show j < zs.length by omega)]
    rw [List.getD_eq_getElem?_getD] at e ⊢
    rw [e] at hb ⊢
    simp only [List.getElem_map, List.getElem_take, u8, UInt8.toNat_ofNat']
    congr 2
    omega
theorem laidOut_ : laidOutB Try.prog = true := by kernel_rfl
theorem own_ : ownKnob Try.prog.godebug = none := by kernel_rfl
theorem own_slice_ {w : World} {base e n : Nat} {v : Value} {ys : List Value} (h : w.ownsRow base e 1 v n ys) : ∃ A c, v = .slice A n c := by
  rcases h.2 with ⟨rfl, rfl⟩ | ⟨g, cap, cur, rfl, _⟩
  · exact ⟨none, 0, rfl⟩
  · exact ⟨_, _, rfl⟩

theorem Txt.sub {W : World} {B : Nat} {A : Option Addr} {cap k L : Nat} {xs : List UInt8} (h : Txt W B (.slice A xs.length cap) xs) (hL : 0 < L) (hk : k + L ≤ xs.length) :
    ∃ b off, A = some ⟨b, off, none⟩ ∧ xs.length ≤ cap ∧ Txt W B (.slice (some ⟨b, off + k, none⟩) L (cap - k)) ((xs.drop k).take L) := by
  obtain ⟨A', cap', e, h1, h2, hn, h3⟩ := h
  cases e
  obtain ⟨b, off, rfl, hb, hc⟩ := h3 (by omega)
  have hl : ((xs.drop k).take L).length = L := by simp; omega
  refine ⟨b, off, rfl, h1, _, _, by rw [hl], by rw [hl]; omega, by omega, fun e => (by cases e), fun _ => ⟨b, off + k, rfl, hb, fun j hj => ?_⟩⟩
  rw [hl] at hj
  rw [Nat.add_assoc, hc (k + j) (by omega)]
  simp
theorem below_drewN {B : Nat} {W W' : World} (h : Below B W W') (n : Nat) : Below B W (W'.drewN n) := ⟨h.os, h.tape, h.output, h.size, h.block⟩
theorem Txt.drewN {W : World} {B : Nat} {v : Value} {xs : List UInt8} (h : Txt W B v xs) (n : Nat) : Txt (W.drewN n) B v xs := h

theorem owns_below {w w' : World} {base e size n : Nat} {v : Value} {ys : List Value} (h : w.ownsRow base e size v n ys) (hb : Below w.heap.size w w') : w'.ownsRow base e size v n ys := by
  refine ⟨h.1, ?_⟩
  rcases h.2 with h2 | ⟨g, cap, cur, h1, h2, h3, h4⟩
  · exact .inl h2
  · exact .inr ⟨g, cap, cur, h1, h2, (hb.block g (Array.getElem?_eq_some_iff.1 h3).1).trans h3, h4⟩
theorem below_of_drew {w w' : World} (h : Below w.drew.heap.size w.drew w') : Below w.heap.size w w' := ⟨h.os, h.tape, h.output, h.size, h.block⟩
theorem infoByte : (Try.prog.info? 5).map (fun i => (i.zero, i.size, i.bytes)) = some (some (.int .u8 0), 1, 1) := by kernel_rfl
end Go.Proofs.Ytdjoflhcagfmiaa

/-
  A whole array, by value, out of and into a block that holds it and nothing else: at the operations of a plain region.
  Conditions: none.
-/
set_option linter.unusedVariables false
set_option linter.unusedSimpArgs false
set_option maxRecDepth 100000
namespace Go.Proofs.Ytdjoflhcagfmiaa
variable {P : Program}

theorem wpList_load_row {ops : Array Oper} {rest : List Oper} {op : Oper} {a : Act} {w : World} {Q : Exit → Act → World → Prop} (hgd : op.guard = none) (ty : TypeId) (x : Operand) (ho : op.op = .load ty x)
    (b : Nat) (hx : a.eval x = .pointer (some ⟨b, 0, none⟩)) {c : Array Value} {t : TypeId} (hb : w.heap[b]? = some (.cells c t (0, 0))) {n : Nat} {e : TypeId}
    (hu : P.underlying ty = some (.array n e)) (hi : (P.info? ty).map (·.size) = some c.size)
    (h : wpList P ops Q rest (a.put op.dst (.agg c)) w) : wpList P ops Q (op :: rest) a w :=
  wpList_load_mid hgd ty x ho b 0 hx c.toList (.array n e) (fun j v hv => by rw [Nat.zero_add, cell_of_row _ _ j c t (0, 0) hb]; simpa using hv) hu rfl (by simpa using hi) (by simpa using h)
theorem wpList_store_row {ops : Array Oper} {rest : List Oper} {op : Oper} {a : Act} {w : World} {Q : Exit → Act → World → Prop} (hgd : op.guard = none) (ty : TypeId) (x y : Operand) (ho : op.op = .store ty x y)
    (b : Nat) (hx : a.eval x = .pointer (some ⟨b, 0, none⟩)) {c c' : Array Value} (hy : a.eval y = .agg c') {t : TypeId} (hb : w.heap[b]? = some (.cells c t (0, 0)))
    (hi : (P.info? ty).map (·.size) = some c'.size) (hs : c.size = c'.size) (h1 : c'.all (·.oneCell') = true)
    (h : wpList P ops Q rest (a.put op.dst undef) (w.setRow b c')) : wpList P ops Q (op :: rest) a w :=
  wpList_plain hgd fun _ hK => by
    unfold Oper.wp execOp
    simp only [ho, hx, hy, Instr.storeAt, Instr.sureAddr, Sem.run_bind, Sem.run_pure, Result.andThen_ok]
    rw [run_storeVar_row w b t ty c c' hb hi hs h1]
    exact hK _ _ h
theorem heap_alloc_lt (w : World) (o : Obj) {b : Nat} (h : b < w.heap.size) : (w.alloc o).heap[b]? = w.heap[b]? := by
  show (w.heap.push o)[b]? = w.heap[b]?
  rw [Array.getElem?_push, if_neg (by omega)]
theorem heap_alloc_self (w : World) (o : Obj) : (w.alloc o).heap[w.heap.size]? = some o := by
  show (w.heap.push o)[w.heap.size]? = some o
  simp
theorem heap_alloc_size (w : World) (o : Obj) : (w.alloc o).heap.size = w.heap.size + 1 := by
  show (w.heap.push o).size = _
  simp
theorem setRow_alloc_lt (w : World) (o : Obj) {b : Nat} (c : Array Value) (h : b < w.heap.size) : (w.alloc o).setRow b c = (w.setRow b c).alloc o := by
  simp only [World.setRow, World.alloc]
  congr 1
  apply Array.ext_getElem?
  intro i
  rw [Array.getElem?_modify, Array.getElem?_push, Array.getElem?_push, Array.getElem?_modify, Array.size_modify]
  by_cases hi : i = w.heap.size
  · subst hi
    rw [if_pos rfl, if_neg (by omega), if_pos rfl]
  · rw [if_neg hi, if_neg hi]
end Go.Proofs.Ytdjoflhcagfmiaa

/-
  Rows of bytes: a block that holds some, and made ones.
  Conditions: none.
-/
set_option linter.unusedVariables false
set_option linter.unusedSimpArgs false
set_option maxRecDepth 100000
namespace Go.Proofs.Ytdjoflhcagfmiaa
open Go.RowKit

def rowB (l : List UInt8) : Array Value := (l.map u8).toArray
theorem rowB_size (l : List UInt8) : (rowB l).size = l.length := by simp [rowB]
theorem rowB_one (l : List UInt8) : (rowB l).all (·.oneCell') = true := by
  rw [Array.all_eq_true']
  intro v hv
  obtain ⟨b, _, rfl⟩ := List.mem_map.1 (List.mem_toArray.1 hv)
  rfl
theorem rowB_at {l : List UInt8} {j : Nat} (h : j < l.length) : (rowB l)[j]? = some (.int .u8 (l[j].toNat : Int)) := by
  simp only [rowB, List.getElem?_toArray, List.getElem?_map, List.getElem?_eq_getElem h, Option.map_some]; rfl
theorem rowB_set (l : List UInt8) (j : Nat) (x : UInt8) : (rowB l).setIfInBounds j (.int .u8 (x.toNat : Int)) = rowB (l.set j x) := by
  simp [rowB, u8, List.map_set]

theorem infoByteSize : (Try.prog.info? 5).map (·.size) = some 1 := by kernel_rfl
theorem rowB_zero (n : Nat) : rowB (List.replicate n 0) = Array.replicate n (.int .u8 0) := by
  simp [rowB, u8]
theorem made_noughts (m : Nat) : madeCells (Value.int IntKind.u8 0).cells (m * 1) = rowB (List.replicate m 0) := by
  apply Array.ext
  · simp [madeCells, rowB, Value.cells]
  · intro i h1 h2
    simp [madeCells, rowB, Value.cells, u8, Nat.mod_one]
theorem make_noughts (m : Nat) (h : m ≤ 10000) (w' : World) : (Instr.makeSlice 34 (.int .i64 (m : Int)) (.int .i64 (m : Int))).run Try.prog w' = .ok (.slice (some ⟨w'.heap.size, 0, none⟩) m m) (w'.alloc (.cells (rowB (List.replicate m 0)) 5)) := by
  obtain ⟨i0, hi, hz0, hz1, hz2⟩ := info_parts infoByte
  have := run_make (P := Try.prog) w' 34 5 i0 _ Try.underlying34 hi hz0 .i64 .i64 m m (by omega) (by omega) (by rw [hz2]; omega) (by omega)
  rw [this]
  rw [hz1]
  show Result.ok _ (w'.alloc (.cells (madeCells _ ((m : Int).toNat * 1)) _)) = _
  rw [Int.toNat_natCast, made_noughts]
theorem txt_of_block {w : World} {b : Nat} {l : List UInt8} {t : TypeId} {fr : Nat × Nat} (h : w.heap[b]? = some (.cells (rowB l) t fr)) (hl : l.length ≤ maxLen) : Txt w w.heap.size (.slice (some ⟨b, 0, none⟩) l.length l.length) l :=
  ⟨_, _, rfl, Nat.le_refl _, hl, fun e => (by cases e), fun _ => ⟨_, _, rfl, (Array.getElem?_eq_some_iff.1 h).1, fun j hj => by
    rw [Nat.zero_add, cell_of_row _ _ j _ _ _ h, rowB_at hj]; rfl⟩⟩
theorem own_of_block {w : World} {base g : Nat} {l : List UInt8} (hb : base ≤ g) (h : w.heap[g]? = some (.cells (rowB l) 5 (0, 0))) (hm : l.length ≤ maxLen) : w.ownsRow base 5 1 (.slice (some ⟨g, 0, none⟩) l.length l.length) l.length (l.map u8) :=
  ⟨by simp, .inr ⟨g, l.length, rowB l, rfl, hb, h, Nat.le_refl _, hm, by rw [rowB_size]; omega, by rw [Nat.mul_one]; exact List.take_of_length_le (by simp [rowB])⟩⟩
/-- s[k:], whose place is known where something is left. -/
theorem cut_from (a : Option Addr) (n cap k : Nat) (hk : k ≤ n) (hn : n ≤ cap) : ∃ D, (∀ w' : World, (Instr.sliceAt 34 (.slice a n cap) (some (.int .i64 (k : Int))) none none).run Try.prog w' = .ok (.slice D (n - k) (cap - k)) w') ∧ (k < cap → D = a.map (·.add k)) := by
  obtain ⟨i0, hi, hz0, hz1, hz2⟩ := info_parts infoByte
  refine ⟨if cap = k then a else a.map (·.add (k * 1)), fun w' => ?_, fun h => by rw [if_neg (by omega), Nat.mul_one]⟩
  have hel : Try.prog.elem 34 = 5 := by kernel_rfl
  rw [run_sliceAt_slice w' _ _ _ _ _ (by rw [hel]; exact Try.underlying34), run_slice_l w' _ _ _ _ (by rw [hel]; exact Try.underlying34) .i64 (k : Int) (by omega) (by omega), hel]
  have hs : (sizeOf 5).run Try.prog w' = .ok 1 w' := by simp [sizeOf, typeInfo, hi, hz1]
  rw [hs]
  simp [Result.andThen, sliced]
end Go.Proofs.Ytdjoflhcagfmiaa

/-
  The function that takes so many steps of a word, and the one that makes it.
  Conditions: none.
-/
set_option linter.unusedVariables false
set_option linter.unusedSimpArgs false
set_option maxRecDepth 100000
namespace Go.Proofs.Ytdjoflhcagfmiaa
open Go.RowKit

def u32 (n : Nat) : Value := .int .u32 (n : Int)

theorem stp_int (x : Nat) (hx : x < 4294967296) : bits .xor .u32 ((x : Int) / 2) ((x : Int) % 2 * 3988292384) = (stp x : Nat) := by
  have h1 : ((x : Int) % 2 * 3988292384) = ((x % 2 * 3988292384 : Nat) : Int) := by omega
  have h2 : (x : Int) / 2 = ((x / 2 : Nat) : Int) := by omega
  rw [h1, h2, u32_xor_nat _ _ (by omega) (by omega)]
  rfl

theorem clo (k x b : Nat) (w : World) (hk : k < 1000) (hx : x < 4294967296) (hc : w.cell? ⟨b, 0, none⟩ = some (.int .i64 k)) :
    Calls Try.prog 104 #[.int .u32 x, .pointer (some ⟨b, 0, none⟩)] w fun e w' => e = .returned (.int .u32 (stps k x : Nat)) ∧ w' = w := by
  go_enter Try.func104, Try.ntmps104
  go_wp2
  go_loop [0, 5] (fun c i => ∃ j : Nat, c = .int .u32 (stps j x : Nat) ∧ i = .int .i64 j ∧ j ≤ k) (fun _ i => k - (intOf i).toNat)
  case atStart => exact ⟨0, rfl, rfl, by omega⟩
  case round =>
    obtain ⟨j, rfl, rfl, hj⟩ := hrel
    have hl := stps_lt (n := j) hx
    have hs := stp_int (stps j x) hl
    rw [← stps_succ] at hs
    by_cases hlt : j < k
    · have hlt' : (j : Int) < k := by omega
      go_wp2
      go_round
      case rel => exact ⟨j + 1, rfl, by go_num, by omega⟩
      case measure => simp [intOf]; omega
    · obtain rfl : j = k := by omega
      have hlt' : ¬ (j : Int) < j := by omega
      go_wp2
      go_ret
      exact ⟨rfl, rfl⟩
theorem steps_any (w : World) :
    Calls Try.prog 102 #[.int .i64 8] w fun e w' => e = .returned (.func (.func 104) #[] #[.pointer (some ⟨w.heap.size, 0, none⟩)]) ∧ w' = w.alloc (.cells #[.int .i64 8] 3) := by
  have hmf : ∀ (fn : Fn) (first cap : Array Value) (w : World), (Instr.makeFunc fn first cap).run Try.prog w = .ok (.func fn first cap) w := fun _ _ _ _ => rfl
  go_enter Try.func102, Try.ntmps102
  go_wp2
  go_ret
  exact ⟨rfl, rfl⟩
end Go.Proofs.Ytdjoflhcagfmiaa

/-
  The array of what a function makes of each byte.
  Conditions: none.
-/
set_option linter.unusedVariables false
set_option linter.unusedSimpArgs false
set_option maxRecDepth 100000
namespace Go.Proofs.Ytdjoflhcagfmiaa
open Go.RowKit

/-- The first j words are laid. -/
def tabTo (j : Nat) : Array Value := (Array.range 256).map fun i => if i < j then .int .u32 (stps 8 i : Nat) else .int .u32 0
theorem tabTo_size (j : Nat) : (tabTo j).size = 256 := by simp [tabTo]
theorem tabTo_zero : tabTo 0 = Array.replicate 256 (.int .u32 0) := by
  apply Array.ext
  · simp [tabTo]
  · intro i h1 h2; simp [tabTo]
theorem tabTo_succ (j : Nat) : (tabTo j).setIfInBounds j (.int .u32 (stps 8 j : Nat)) = tabTo (j + 1) := by
  apply Array.ext
  · simp [tabTo]
  · intro i h1 h2
    rw [Array.getElem_setIfInBounds]
    · simp only [tabTo, Array.getElem_map, Array.getElem_range]
      by_cases hi : j = i
      · subst hi; simp
      · rw [if_neg hi]
        by_cases h : i < j
        · rw [if_pos h, if_pos (by omega)]
        · rw [if_neg h, if_neg (by omega)]
    · simpa [tabTo] using h1
theorem tabTo_one (j : Nat) : (tabTo j).all (·.oneCell') = true := by
  rw [Array.all_eq_true_iff_forall_mem]
  intro v hv
  obtain ⟨i, _, rfl⟩ := Array.mem_map.1 hv
  by_cases h : i < j
  · rw [if_pos h]; rfl
  · rw [if_neg h]; rfl
theorem tabTo_at {j : Nat} (h : j < 256) : (tabTo 256)[j]? = some (.int .u32 (stps 8 j : Nat)) := by
  simp [tabTo, h]
theorem tabTo_in {i j : Nat} (h : i < 256) : ∃ v, (tabTo j)[i]? = some v := ⟨_, Array.getElem?_eq_getElem (by rw [tabTo_size]; exact h)⟩

theorem zero_tab : (∀ w, (zeroValue 143).run Try.prog w = .ok (.agg (Array.replicate 256 (.int .u32 0))) w) ∧ (Try.prog.info? 143).map (·.size) = some 256 := zero_of_info (by kernel_rfl)

set_option maxHeartbeats 1000000 in
theorem each_any (b : Nat) (w : World) (hc : w.cell? ⟨b, 0, none⟩ = some (.int .i64 8)) :
    Calls Try.prog 101 #[.func (.func 104) #[] #[.pointer (some ⟨b, 0, none⟩)]] w fun e w' => e = .returned (.agg (tabTo 256)) ∧ w' = (w.alloc (.cells (tabTo 256) 143)).alloc (.cells (tabTo 256) 143) := by
  have hblt := cell_lt hc
  have hz := zero_tab.1
  go_enter Try.func101, Try.ntmps101
  go_wp2
  rw [← tabTo_zero]
  go_loopg [5] 256 (fun g s5 wx => ∃ i : Nat, i + g = 256 ∧ s5 = .int .i64 i ∧ wx = (w.alloc (.cells (tabTo 0) 143)).alloc (.cells (tabTo i) 143))
  case atStart => exact ⟨0, by omega, rfl, rfl⟩
  case round =>
    obtain ⟨i, hig, rfl, rfl⟩ := hrel
    cases gk with
    | zero =>
      obtain rfl : i = 256 := by omega
      have hh2 : ((w.alloc (.cells (tabTo 0) 143)).alloc (.cells (tabTo 256) 143)).heap[w.heap.size + 1]? = some (.cells (tabTo 256) 143 (0, 0)) := by
        have := heap_alloc_self (w.alloc (.cells (tabTo 0) 143)) (.cells (tabTo 256) 143)
        rwa [heap_alloc_size] at this
      have hh1 : ((w.alloc (.cells (tabTo 0) 143)).alloc (.cells (tabTo 256) 143)).heap[w.heap.size]? = some (.cells (tabTo 0) 143 (0, 0)) := by
        rw [heap_alloc_lt _ _ (by rw [heap_alloc_size]; omega), heap_alloc_self]
      go_wp2_with (first
        | refine wpList_load_row rfl 143 _ rfl _ rfl hh2 Try.underlying143 (by rw [tabTo_size]; exact zero_tab.2) ?_
        | refine wpList_store_row rfl 143 _ _ rfl _ rfl rfl hh1 (by rw [tabTo_size]; exact zero_tab.2) (by rw [tabTo_size, tabTo_size]) (tabTo_one _) ?_)
      have hw : ((w.alloc (.cells (tabTo 0) 143)).alloc (.cells (tabTo 256) 143)).setRow w.heap.size (tabTo 256) = (w.alloc (.cells (tabTo 256) 143)).alloc (.cells (tabTo 256) 143) := by
        rw [setRow_alloc_lt _ _ _ (by rw [heap_alloc_size]; omega), World.setRow_alloc_new]
      have hh3 : ((w.alloc (.cells (tabTo 256) 143)).alloc (.cells (tabTo 256) 143)).heap[w.heap.size]? = some (.cells (tabTo 256) 143 (0, 0)) := by
        rw [heap_alloc_lt _ _ (by rw [heap_alloc_size]; omega), heap_alloc_self]
      rw [hw]
      refine bodyPost_ret (v := .agg (tabTo 256)) ?_ rfl ⟨rfl, rfl⟩
      exact results_cell_row rfl _ _ w.heap.size _ _ (0, 0) _ rfl hh3 Try.underlying143 rfl (by rw [tabTo_size]; exact zero_tab.2)
    | succ g =>
      have hi : (i : Int) < 256 := by omega
      have hi0 : (0 : Int) ≤ i := by omega
      have hcell := tabTo_in (i := i) (j := i) (by omega)
      obtain ⟨v, hv⟩ := hcell
      have hs := tabTo_succ i
      have HS := Lib.hid hs
      clear hs
      go_wp2_with fail
      refine (clo 8 i b _ (by omega) (by omega) (by rw [World.cell?_alloc_lt _ _ _ (by simp; omega), World.cell?_alloc_lt _ _ _ hblt]; exact hc)).mono ?_
      rintro e w1 ⟨rfl, rfl⟩
      go_wp2
      go_roundg g
      case measure => omega
      case rel => exact ⟨i + 1, by omega, by go_num, by rw [HS.out]⟩
end Go.Proofs.Ytdjoflhcagfmiaa

/-
  A check sum of bytes, by the table of each byte.
  Conditions: the bytes can be read as a slice.
-/
set_option linter.unusedVariables false
set_option linter.unusedSimpArgs false
set_option maxRecDepth 100000
namespace Go.Proofs.Ytdjoflhcagfmiaa
open Go.RowKit

theorem u8_eq (x : UInt8) : u8 x = .int .u8 (x.toNat : Int) := rfl
theorem crcR_take {w : Nat} {xs : List UInt8} {j : Nat} (h : j < xs.length) : crcR w (xs.take (j + 1)) = stps 8 (crcR w (xs.take j) ^^^ xs[j].toNat) := by
  rw [List.take_add_one, List.getElem?_eq_getElem h, crcR_append]
  rfl

set_option maxHeartbeats 1000000 in
theorem over_any (s : Nat) (hs : s < 4294967296) (v : Value) (xs : List UInt8) (w : World) (hx : Txt w w.heap.size v xs) :
    Calls Try.prog 97 #[.int .u32 s, v] w fun e w' => e = .returned (.int .u32 (over s xs : Nat)) ∧ Below w.heap.size w w' := by
  obtain ⟨A, cap, rfl, h1, h2, hn, h3⟩ := hx
  unfold maxLen at h2
  have H3 := Lib.hid h3
  clear h3 hn
  have hz := zero_tab.1
  go_enter Try.func97, Try.ntmps97
  go_wp2_with fail
  refine (steps_any _).mono ?_
  rintro e w1 ⟨rfl, rfl⟩
  have hc : (w.alloc (.cells #[.int .i64 8] 3)).cell? ⟨w.heap.size, 0, none⟩ = some (.int .i64 8) := by simp
  go_wp2_with fail
  refine (each_any _ _ hc).mono ?_
  rintro e w2 ⟨rfl, rfl⟩
  have hb3 : Below w.heap.size w (((w.alloc (.cells #[.int .i64 8] 3)).alloc (.cells (tabTo 256) 143)).alloc (.cells (tabTo 256) 143)) :=
    (((below_new w _).trans ((below_new _ _).mono (by simp))).trans ((below_new _ _).mono (by simp; omega)))
  have hs3 : (((w.alloc (.cells #[.int .i64 8] 3)).alloc (.cells (tabTo 256) 143)).alloc (.cells (tabTo 256) 143)).heap.size = w.heap.size + 1 + 1 + 1 := by simp
  generalize ((w.alloc (.cells #[.int .i64 8] 3)).alloc (.cells (tabTo 256) 143)).alloc (.cells (tabTo 256) 143) = w3 at hb3 hs3 ⊢
  have hh : (w3.alloc (.cells (Array.replicate 256 (.int .u32 0)) 143)).heap[w3.heap.size]? = some (.cells (Array.replicate 256 (.int .u32 0)) 143 (0, 0)) := heap_alloc_self _ _
  obtain ⟨w4, hw4⟩ : ∃ w4, w4 = (w3.alloc (.cells (Array.replicate 256 (.int .u32 0)) 143)).setRow w3.heap.size (tabTo 256) := ⟨_, rfl⟩
  have hw4' := hw4
  rw [World.setRow_alloc_new] at hw4'
  have hb4 : Below w.heap.size w w4 := by rw [hw4']; exact hb3.trans ((below_new _ _).mono (by omega))
  have htab : ∀ j, j < 256 → w4.cell? ⟨w3.heap.size, j, none⟩ = some (.int .u32 (stps 8 j : Nat)) := by
    intro j hj
    rw [hw4', World.cell?_alloc_new]
    exact tabTo_at hj
  have hcells : 0 < xs.length → ∃ b off, A = some ⟨b, off, none⟩ ∧ ∀ j (h : j < xs.length), w4.cell? ⟨b, off + j, none⟩ = some (u8 xs[j]) := by
    intro hp
    obtain ⟨b, off, e, hlt, hc⟩ := H3.out hp
    exact ⟨b, off, e, fun j hj => (hb4.cell (p := ⟨b, off + j, none⟩) hlt).trans (hc j hj)⟩
  have HB := Lib.hid hb4
  have HT := Lib.hid htab
  have HC := Lib.hid hcells
  have HW := Lib.hid hw4
  have HS3 := Lib.hid hs3
  clear hb4 htab hcells hw4 hw4' H3 hb3 hs3
  go_wp2_with (refine wpList_store_row rfl 143 _ _ rfl _ rfl rfl hh (by rw [tabTo_size]; exact zero_tab.2) (by rw [tabTo_size]; simp) (tabTo_one _) ?_; rw [← HW.out])
  clear hh hz
  have hstart : bits .xor .u32 IntKind.u32.max (s : Int) = ((4294967295 ^^^ s : Nat) : Int) := u32_xor_nat 4294967295 s (by omega) hs
  have hF : 4294967295 ^^^ s < 4294967296 := xor_word (by omega) hs
  go_loop [6, 15] (fun c i => ∃ j : Nat, c = .int .u32 (crcR (4294967295 ^^^ s) (xs.take j) : Nat) ∧ i = .int .i64 j ∧ j ≤ xs.length) (fun _ i => xs.length - (intOf i).toNat)
  case atStart => exact ⟨0, by rw [hstart]; rfl, rfl, by omega⟩
  case round =>
    obtain ⟨j, rfl, rfl, hj⟩ := hrel
    clear hstart
    by_cases hlt : j < xs.length
    · obtain ⟨b, off, rfl, hc⟩ := HC.out (by omega)
      have hcj := hc j hlt
      have hw := crcR_lt hF (xs.take j)
      have hT := crcR_take (w := 4294967295 ^^^ s) hlt
      generalize hx : xs[j] = x at hcj hT
      generalize crcR (4294967295 ^^^ s) (xs.take j) = W at hw hT ⊢
      rw [stps_table hw (u8_lt x)] at hT
      rw [u8_eq] at hcj
      clear hc hx
      have hxl := u8_lt x
      have h8 : bits .xor .u8 ((W : Int) % 256) (x.toNat : Int) = ((W % 256 ^^^ x.toNat : Nat) : Int) := by
        have := u8_xor_nat (W % 256) x.toNat (by omega) hxl
        rwa [Int.natCast_emod] at this
      have hk : W % 256 ^^^ x.toNat < 256 := Nat.xor_lt_two_pow (n := 8) (by omega) hxl
      generalize W % 256 ^^^ x.toNat = k at h8 hk hT
      have hkc := HT.out k hk
      have hsl := stps_lt (n := 8) (w := k) (by omega)
      have h32 : bits .xor .u32 ((W : Int) / 256) (stps 8 k : Nat) = (crcR (4294967295 ^^^ s) (xs.take (j + 1)) : Nat) := by
        have := u32_xor_nat (W / 256) (stps 8 k) (by omega) hsl
        rw [hT, ← this, Int.natCast_ediv]
        rfl
      have hlt' : (j : Int) < xs.length := by omega
      have hk0 : (0 : Int) ≤ k := by omega
      have hk1 : (k : Int) < 256 := by omega
      go_wp2
      go_round
      case rel => exact ⟨j + 1, by rw [hT], by go_num, by omega⟩
      case measure => simp [intOf]; omega
    · obtain rfl : j = xs.length := by omega
      have hlt' : ¬ (xs.length : Int) < xs.length := by omega
      rw [List.take_length]
      have he : bits .xor .u32 IntKind.u32.max (crcR (4294967295 ^^^ s) xs : Nat) = (over s xs : Nat) := by
        rw [over, Nat.xor_comm (crcR _ _)]
        exact u32_xor_nat 4294967295 _ (by omega) (crcR_lt hF xs)
      go_wp2
      go_ret
      exact ⟨rfl, HB.out⟩

theorem csum_any (v : Value) (xs : List UInt8) (w : World) (hx : Txt w w.heap.size v xs) :
    Calls Try.prog 86 #[v] w fun e w' => e = .returned (.int .u32 (over 0 xs : Nat)) ∧ Below w.heap.size w w' := by
  go_enter Try.func86, Try.ntmps86
  go_wp2_with fail
  refine (over_any 0 (by omega) v xs _ hx).mono ?_
  rintro e w1 ⟨rfl, b⟩
  have B := Lib.hid b
  clear b
  go_wp2
  go_ret
  exact ⟨rfl, B.out⟩

end Go.Proofs.Ytdjoflhcagfmiaa

/-
  A region that draws its order, in a loop's round: what was walked with loads taken first holds in the round too.
  Conditions: no operation of the region defers.
-/
set_option linter.unusedVariables false
set_option linter.unusedSimpArgs false
set_option maxRecDepth 100000
namespace Go.Proofs.Ytdjoflhcagfmiaa
open Go.RowKit

theorem uponIn_of_upon {l n : Nat} {P : Program} {o : Oper} {a : Act} {K K' : Act → World → Prop} {Q : Exit → Act → World → Prop} (hK : ∀ a w, K a w → K' a w) {r : Result Next} (h : o.upon P a K Q r) : o.uponIn (Fence.wide.inRound l) n P a K' Q r := by
  cases r with
  | ok nx w' =>
    cases nx with
    | value v => exact hK _ _ h
    | skip => exact hK _ _ h
    | defer d => exact hK _ _ h
    | enter f args =>
      refine ⟨fun hd => (by cases hd), (callsIn_wide.2 (Calls.mono h ?_) : CallsIn Fence.wide (n - 1) P f args w' _)⟩
      intro e w'' he
      cases e with
      | returned v => exact hK _ _ he
      | panicked c => exact he
      | outgrown => exact he
    | row row args =>
      refine ⟨fun hd => (by cases hd), fun c cs _ => ?_⟩
      obtain ⟨v, w'', r, s⟩ := h c cs
      exact ⟨v, w'', hK _ _ r, stepsIn_wide.2 s⟩
    | _ => exact h.elim
  | halt hh w' =>
    cases hh with
    | panic v => exact h
    | _ => exact h.elim
theorem wpOpIn_of_op {l n : Nat} {P : Program} {ops : Array Oper} {Q : Exit → Act → World → Prop} (hnd : ∀ (j : Nat) (o : Oper), ops[j]? = some o → ∀ c, o.op ≠ .defer c) (hQ : ¬ LetsOut Q) {K K' : Act → World → Prop} (hK : ∀ a w, K a w → K' a w) {i : Nat} {a : Act} {w : World}
    (h : wpOp P ops Q i K a w) : wpOpIn (Fence.wide.inRound l) n P ops Q i K' a w := by
  unfold wpOp at h
  unfold wpOpIn
  cases ho : ops[i]? with
  | none => rw [ho] at h; exact hK _ _ h
  | some o =>
    rw [ho] at h
    simp only at h ⊢
    by_cases hw : Region.wanted o (yielded ops a.tmps) = true
    · rw [if_pos hw] at h ⊢
      rcases h with h | ⟨_, h⟩
      · refine ⟨fun _ _ => trivial, ?_⟩
        rw [Oper.semAt_eq _ _ _ (hnd i o ho)]
        exact uponIn_of_upon hK h
      · exact (hQ h).elim
    · rw [if_neg hw] at h ⊢
      exact ⟨fun _ _ => trivial, hK _ _ h⟩
theorem wpAnyIn_of_any {l n : Nat} {P : Program} {md : Region.Mode} {ops : Array Oper} {Q : Exit → Act → World → Prop} (hnd : ∀ (j : Nat) (o : Oper), ops[j]? = some o → ∀ c, o.op ≠ .defer c) (hQ : ¬ LetsOut Q) :
    ∀ (fuel : Nat) (listed : Array Bool) (a : Act) (w : World), wpAny P md ops Q fuel listed a w → wpAnyIn (Fence.wide.inRound l) n P md ops Q fuel listed a w
  | 0, _, _, _, h => h
  | fuel + 1, listed, a, w, h => ⟨h.1, fun i hi => wpOpIn_of_op hnd hQ (fun a w => wpAnyIn_of_any hnd hQ fuel _ a w) (h.2 i hi)⟩
/-- The beginning, in a round: from the world behind the draw. -/
theorem wpIn_region_held {l n : Nat} {P : Program} {ops : Array Oper} {Q : Exit → Act → World → Prop} {S : World → Prop} {id : Nat} {a : Act} {w : World} (hnd : ∀ (j : Nat) (o : Oper), ops[j]? = some o → ∀ c, o.op ≠ .defer c) (hQ : ¬ LetsOut Q) (hm : P.follows .mixedOrders = true) (hS : S w.drew)
    (h : S w.drew → wpAnyH P .any ops Q S ops.size (Array.replicate ops.size false) a w.drew) : (Code.region id ops true).wpIn (Fence.wide.inRound l) n P Q a w :=
  wpIn_region_any hm (wpAnyIn_of_any hnd hQ _ _ _ _ (wpAny_of_held _ _ _ _ (h hS)))
def noDefer (ops : Array Oper) : Bool := ops.all fun o => match o.op with | .defer _ => false | _ => true
theorem noDefer_of {ops : Array Oper} (h : noDefer ops = true) : ∀ (j : Nat) (o : Oper), ops[j]? = some o → ∀ c, o.op ≠ .defer c := by
  intro j o ho c hc
  have := Array.all_eq_true'.1 h o (Array.mem_of_getElem? ho)
  rw [hc] at this
  cases this
end Go.Proofs.Ytdjoflhcagfmiaa

/-
  append(own, text...), as one operation of a region.
  Conditions: none.
-/
set_option linter.unusedVariables false
set_option linter.unusedSimpArgs false
set_option maxRecDepth 100000
namespace Go.Proofs.Ytdjoflhcagfmiaa
open Go.RowKit

/-- append(own, text...), as one operation. -/
theorem wp_append_txt {P : Program} {w : World} {o : Oper} {a : Act} {K : Act → World → Prop} {Q : Exit → Act → World → Prop} (s x : Operand) (t : TypeId)
    (ho : o.op = .call { callee := .builtin .append, args := #[s, x], argTypes := #[t, t] })
    {base e : Nat} {i : TypeInfo} (ht : P.underlying t = some (.slice e)) (hi : P.info? e = some i) (hz : i.zero = some (.int .u8 0)) (hsize : i.size = 1) (hby : i.bytes = 1)
    {v : Value} {n : Nat} {ys : List Value} (hs : a.eval s = v) (hown : w.ownsRow base e 1 v n ys) {B : Nat} {u : Value} {xs : List UInt8} (hu : a.eval x = u) (hx : Txt w B u xs) (h63 : n + xs.length ≤ 140737488355328) (hbase : base ≤ w.heap.size)
    (h : ∀ v' w', w'.ownsRow base e 1 v' (n + xs.length) (ys ++ xs.map u8) → w.grownBy w' v.ownBlock → K (a.put o.dst v') w') : o.wp P a w K Q := by
  obtain ⟨v', w', hrun, h2, h3⟩ := run_append_txt (ty := o.type) ht hi hz hsize hby hown hx h63 hbase
  unfold Oper.wp execOp
  simp only [ho, resolve, invoke, builtin, Sem.run_bind, Sem.run_pure, Result.andThen_ok, List.map_toArray, List.map_cons, List.map_nil, hs, hu, hrun]
  exact h v' w' h2 h3
end Go.Proofs.Ytdjoflhcagfmiaa
