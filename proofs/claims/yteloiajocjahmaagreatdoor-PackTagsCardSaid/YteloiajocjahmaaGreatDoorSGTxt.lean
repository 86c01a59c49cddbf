/-
 What it means that a slice of bytes reads as a text, and how that lasts while other memory changes.
 Conditions: none.
-/
import Derived.Below
import Derived.Laws.OwnMore
import Derived.RangeFuncBox
import Derived.Deep.Draws
import Derived.Laws.AppendOwn
import Derived.Laws.AppendOwnNone
import Derived.OwnWalk
import Derived.Test.YteloiajocjahmaaGreatDoorSGBase
import Derived.Test.YteloiajocjahmaaGreatDoorRows
import Derived.ProofKit
import Derived.OpenShut
import Derived.ShutString
import Derived.ChangeOld
import Derived.Laws.Rows
import Derived.Laws.BytesString
import Derived.Laws.IdiomStrings
import Derived.WalkKit
import Derived.Deep.MidRow
import Derived.Laws.Tables
import Derived.Deep.WholeRow
import Derived.Laws.CopyOwn
set_option linter.unusedVariables false
set_option linter.unusedSimpArgs false
set_option maxRecDepth 100000
namespace Go.Proofs.YteloiajocjahmaaGreatDoor
open Go.RowKit

def u8 (b : UInt8) : Value := .int .u8 (b.toNat : Int)

/-- The slice v reads as the bytes xs, all of them in a block below B. -/
def Txt (W : World) (B : Nat) (v : Value) (xs : List UInt8) : Prop :=
 ∃ (A : Option Addr) (cap : Nat), v = .slice A xs.length cap ∧ xs.length ≤ cap ∧ cap ≤ maxLen ∧ (A = none → cap = 0) ∧
  (0 < xs.length → ∃ b off, A = some ⟨b, off, none⟩ ∧ b < B ∧ ∀ j (h : j < xs.length), W.cell? ⟨b, off + j, none⟩ = some (u8 xs[j]))

theorem Txt.nil_ (W : World) (B : Nat) : Txt W B (.slice none 0 0) [] := ⟨none, 0, rfl, Nat.le_refl _, Nat.zero_le _, fun _ => rfl, fun h => absurd h (by simp)⟩
theorem Txt.le {W : World} {B : Nat} {v : Value} {xs : List UInt8} (h : Txt W B v xs) : xs.length ≤ maxLen := by
 obtain ⟨A, cap, _, h1, h2, _, _⟩ := h; omega
theorem Txt.keep {W W' : World} {B : Nat} {v : Value} {xs : List UInt8} (h : Txt W B v xs) (hk : ∀ b o, b < B → W'.cell? ⟨b, o, none⟩ = W.cell? ⟨b, o, none⟩) : Txt W' B v xs := by
 obtain ⟨A, cap, h0, h1, h2, hn, h3⟩ := h
 refine ⟨A, cap, h0, h1, h2, hn, fun hp => ?_⟩
 obtain ⟨b, off, ha, hb, hc⟩ := h3 hp
 exact ⟨b, off, ha, hb, fun j hj => (hk _ _ hb).trans (hc j hj)⟩
theorem Txt.below {W W' : World} {B : Nat} {v : Value} {xs : List UInt8} (h : Txt W B v xs) (hb : Below B W W') : Txt W' B v xs := h.keep fun b o hlt => hb.cell (p := ⟨b, o, none⟩) hlt
theorem Txt.more {W : World} {B B' : Nat} {v : Value} {xs : List UInt8} (h : Txt W B v xs) (hB : B ≤ B') : Txt W B' v xs := by
 obtain ⟨A, cap, h0, h1, h2, hn, h3⟩ := h
 refine ⟨A, cap, h0, h1, h2, hn, fun hp => ?_⟩
 obtain ⟨b, off, ha, hb, hc⟩ := h3 hp
 exact ⟨b, off, ha, by omega, hc⟩
theorem Txt.own {W : World} {base e : Nat} {v : Value} {xs : List UInt8} (hl : xs.length ≤ maxLen) (h : W.ownsRow base e 1 v xs.length (xs.map u8)) : Txt W W.heap.size v xs := by
 rcases h.2 with ⟨rfl, h0⟩ | ⟨g, cap, cur, rfl, _, hgb, hcap, hcur⟩
 ·obtain rfl : xs = [] := List.eq_nil_of_length_eq_zero (by simpa using h0)
  exact Txt.nil_ _ _
 ·refine ⟨_, cap, rfl, hcap, hcur.1, fun h => (by cases h), fun _ => ⟨g, 0, rfl, (Array.getElem?_eq_some_iff.1 hgb).1, fun j hj => ?_⟩⟩
  rw [Nat.zero_add, h.cellAt j (by omega), List.getElem?_map, List.getElem?_eq_getElem hj]
  rfl

theorem u8s_oneCell (xs : List UInt8) : ∀ u ∈ xs.map u8, u.oneCell' = true := fun u hu => by
 obtain ⟨b, _, rfl⟩ := List.mem_map.1 hu
 rfl
/-- A text's cells, at an address. -/
theorem Txt.cells {W : World} {B : Nat} {a : Addr} {cap : Nat} {xs : List UInt8} (h : Txt W B (.slice (some a) xs.length cap) xs) : ∀ j u, (xs.map u8)[j]? = some u → W.cell? (a.add j) = some u := by
 obtain ⟨A, cap', e, _, _, _, h3⟩ := h
 cases e
 intro j u hj
 obtain ⟨hlt, he⟩ := List.getElem?_eq_some_iff.1 hj
 rw [List.length_map] at hlt
 obtain ⟨b, off, hA, _, hc⟩ := h3 (by omega)
 cases hA
 rw [Addr.add_lit, hc j hlt, ← he, List.getElem_map]

/-- append(own, text...): the row of the call's own, longer by the text. -/
theorem run_append_txt {P : Program} {w : World} {base t ty e : Nat} {i : TypeInfo} (ht : P.underlying t = some (.slice e)) (hi : P.info? e = some i) (hz : i.zero = some (.int .u8 0)) (hsize : i.size = 1) (hby : i.bytes = 1)
  {v : Value} {n : Nat} {ys : List Value} (hown : w.ownsRow base e 1 v n ys) {B : Nat} {x : Value} {xs : List UInt8} (hx : Txt w B x xs) (h63 : n + xs.length ≤ 140737488355328) (hbase : base ≤ w.heap.size) :
  ∃ v' w', (Builtin.append_ #[t, t] ty #[v, x]).run P w = .ok v' w' ∧ w'.ownsRow base e 1 v' (n + xs.length) (ys ++ xs.map u8) ∧ w.grownBy w' v.ownBlock := by
 obtain ⟨A, cap, rfl, h1, h2, hn, h3⟩ := id hx
 cases A with
 | none =>
  obtain rfl := hn rfl
  obtain rfl : xs = [] := List.eq_nil_of_length_eq_zero (by omega)
  exact ⟨v, w, run_append_owned_none (P := P) (w := w) base t ty e i 1 ht hi v n ys hown, by simpa using hown, World.grownBy.refl w _⟩
 | some a =>
  obtain ⟨v', w', hr, ho, hg, _⟩ := run_append_own (P := P) w base t ty e i (.int .u8 0) 1 1 ht hi hz hsize hby rfl (by decide) v n ys hown a xs.length cap (xs.map u8) (by simp) hx.cells (u8s_oneCell xs) (by unfold maxLen; omega) (by omega) hbase
  exact ⟨v', w', hr, ho, hg⟩

theorem wpList_append_txt {P : Program} {w : World} {ops : Array Oper} {rest : List Oper} {o : Oper} {a : Act} {Q : Exit → Act → World → Prop} (hgd : o.guard = none) (s x : Operand) (t : TypeId)
  (ho : o.op = .call { callee := .builtin .append, args := #[s, x], argTypes := #[t, t] })
  {base e : Nat} {i : TypeInfo} (ht : P.underlying t = some (.slice e)) (hi : P.info? e = some i) (hz : i.zero = some (.int .u8 0)) (hsize : i.size = 1) (hby : i.bytes = 1)
  {v : Value} {n : Nat} {ys : List Value} (hs : a.eval s = v) (hown : w.ownsRow base e 1 v n ys) {B : Nat} {u : Value} {xs : List UInt8} (hu : a.eval x = u) (hx : Txt w B u xs) (h63 : n + xs.length ≤ 140737488355328) (hbase : base ≤ w.heap.size)
  (h : ∀ v' w', w'.ownsRow base e 1 v' (n + xs.length) (ys ++ xs.map u8) → w.grownBy w' v.ownBlock → wpList P ops Q rest (a.put o.dst v') w') : wpList P ops Q (o :: rest) a w := by
 refine wpList_plain hgd fun K hK => ?_
 obtain ⟨v', w', hrun, h2, h3⟩ := run_append_txt (ty := o.type) ht hi hz hsize hby hown hx h63 hbase
 unfold Oper.wp execOp
 simp only [ho, resolve, invoke, builtin, Sem.run_bind, Sem.run_pure, Result.andThen_ok, List.map_toArray, List.map_cons, List.map_nil, hs, hu, hrun]
 exact hK _ _ (h v' w' h2 h3)
open Go.ChangeShapes Go.WideShapes Go.ChangeAt Go.RowKit

/-- A text as a string. -/
theorem run_txt_string {W : World} {B : Nat} {v : Value} {xs : List UInt8} (h : Txt W B v xs) : (convert 22 9 v).run Tryz.prog W = .ok (.string ⟨xs.toArray⟩) W := by
 obtain ⟨A, cap, rfl, _, _, hn, _⟩ := id h
 cases A with
 | none =>
  obtain rfl := hn rfl
  have hl : xs.length = 0 := by obtain ⟨_, _, e, h1, _⟩ := h; cases e; omega
  obtain rfl : xs = [] := List.eq_nil_of_length_eq_zero hl
  rw [run_convert_bytes_string W _ _ 5 none _ 0 Tryz.underlying22 Tryz.underlying5 Tryz.underlying9]
  rfl
 | some a =>
  refine run_convert_bytes_back W _ _ 5 a cap xs Tryz.underlying22 Tryz.underlying5 Tryz.underlying9 (fun j hj => ?_)
  exact h.cells j _ (by rw [List.getElem?_map, List.getElem?_eq_getElem hj]; rfl)

set_option maxRecDepth 100000 in
theorem txt_of_arg {H : Type} {enc : TypeId × Value → H} {W : World} {base : Nat} {v : Value} {d : DataW H} {p : List MemPlace} (hval : Value.okWide Tryz.prog W .any base 22 v) (h : DataW.Trod enc Tryz.prog W 0 (fun _ => true) true 22 v d p) :
  ∃ xs, Txt W W.heap.size v xs := by
 obtain ⟨a, len, cap, rfl⟩ := okWide_slice Tryz.underlying22 hval
 obtain ⟨fuel, hf⟩ := h
 rcases open_ints Tryz.underlying22 Tryz.underlying5 (by kernel_rfl) hf with ⟨hcs, _⟩ | ⟨x, l, c, zs, hcs, _, hl, hm, hz, _, hcell, hwz⟩
 ·simp [Value.cells] at hcs
  obtain ⟨rfl, rfl, rfl⟩ := hcs
  exact ⟨[], Txt.nil_ _ _⟩
 ·simp [Value.cells] at hcs
  obtain ⟨rfl, rfl, rfl⟩ := hcs
  simp only [if_true] at hz
  have hlen : ((zs.take len).map fun n => UInt8.ofNat n.toNat).length = len := by simp; omega
  refine ⟨(zs.take len).map fun n => UInt8.ofNat n.toNat, some x, cap, by rw [hlen], by rw [hlen]; exact hl, hm, fun e => (by cases e), fun hp => ?_⟩
  rw [hlen] at hp
  obtain ⟨b, off, spot⟩ := x
  have hspot : spot = none := by simpa [Addr.add] using World.cell?_spot (hcell 0 (by omega))
  subst hspot
  refine ⟨b, off, rfl, by simpa [Addr.add] using cell_lt (hcell 0 (by omega)), fun j hj => ?_⟩
  rw [hlen] at hj
  have hcj := hcell j (by omega)
  rw [Addr.add_lit] at hcj
  rw [hcj]
  have hb := range_u8 hwz j
  have e : zs.getD j 0 = zs[j]'(by omega) := by simp [List.getD, List.getElem?_eq_getElem (show j < zs.length by omega)]
  rw [List.getD_eq_getElem?_getD] at e ⊢
  rw [e] at hb ⊢
  simp only [List.getElem_map, List.getElem_take, u8, UInt8.toNat_ofNat']
  congr 2
  omega
theorem Txt.sub {W : World} {B : Nat} {A : Option Addr} {cap k L : Nat} {xs : List UInt8} (h : Txt W B (.slice A xs.length cap) xs) (hL : 0 < L) (hk : k + L ≤ xs.length) :
  ∃ b off, A = some ⟨b, off, none⟩ ∧ xs.length ≤ cap ∧ Txt W B (.slice (some ⟨b, off + k, none⟩) L (cap - k)) ((xs.drop k).take L) := by
 obtain ⟨A', cap', e, h1, h2, hn, h3⟩ := h
 cases e
 obtain ⟨b, off, rfl, hb, hc⟩ := h3 (by omega)
 have hl : ((xs.drop k).take L).length = L := by simp; omega
 refine ⟨b, off, rfl, h1, _, _, by rw [hl], by rw [hl]; omega, by omega, fun e => (by cases e), fun _ => ⟨b, off + k, rfl, hb, fun j hj => ?_⟩⟩
 rw [hl] at hj
 rw [Nat.add_assoc, hc (k + j) (by omega)]
 simp
theorem below_drewN {B : Nat} {W W' : World} (h : Below B W W') (n : Nat) : Below B W (W'.drewN n) := ⟨h.os, h.tape, h.output, h.size, h.block⟩
theorem Txt.drewN {W : World} {B : Nat} {v : Value} {xs : List UInt8} (h : Txt W B v xs) (n : Nat) : Txt (W.drewN n) B v xs := h

theorem below_of_drew {w w' : World} (h : Below w.drew.heap.size w.drew w') : Below w.heap.size w w' := ⟨h.os, h.tape, h.output, h.size, h.block⟩
theorem infoByte : (Tryz.prog.info? 5).map (fun i => (i.zero, i.size, i.bytes)) = some (some (.int .u8 0), 1, 1) := by kernel_rfl
variable {P : Program}

theorem wpList_load_row {ops : Array Oper} {rest : List Oper} {op : Oper} {a : Act} {w : World} {Q : Exit → Act → World → Prop} (hgd : op.guard = none) (ty : TypeId) (x : Operand) (ho : op.op = .load ty x)
  (b : Nat) (hx : a.eval x = .pointer (some ⟨b, 0, none⟩)) {c : Array Value} {t : TypeId} (hb : w.heap[b]? = some (.cells c t (0, 0))) {n : Nat} {e : TypeId}
  (hu : P.underlying ty = some (.array n e)) (hi : (P.info? ty).map (·.size) = some c.size)
  (h : wpList P ops Q rest (a.put op.dst (.agg c)) w) : wpList P ops Q (op :: rest) a w :=
 wpList_load_mid hgd ty x ho b 0 hx c.toList (.array n e) (fun j v hv => by rw [Nat.zero_add, cell_of_row _ _ j c t (0, 0) hb]; simpa using hv) hu rfl (by simpa using hi) (by simpa using h)
theorem wpList_store_row {ops : Array Oper} {rest : List Oper} {op : Oper} {a : Act} {w : World} {Q : Exit → Act → World → Prop} (hgd : op.guard = none) (ty : TypeId) (x y : Operand) (ho : op.op = .store ty x y)
  (b : Nat) (hx : a.eval x = .pointer (some ⟨b, 0, none⟩)) {c c' : Array Value} (hy : a.eval y = .agg c') {t : TypeId} (hb : w.heap[b]? = some (.cells c t (0, 0)))
  (hi : (P.info? ty).map (·.size) = some c'.size) (hs : c.size = c'.size) (h1 : c'.all (·.oneCell') = true)
  (h : wpList P ops Q rest (a.put op.dst undef) (w.setRow b c')) : wpList P ops Q (op :: rest) a w :=
 wpList_plain hgd fun _ hK => by
  unfold Oper.wp execOp
  simp only [ho, hx, hy, Instr.storeAt, Instr.sureAddr, Sem.run_bind, Sem.run_pure, Result.andThen_ok]
  rw [run_storeVar_row w b t ty c c' hb hi hs h1]
  exact hK _ _ h

theorem Txt.pre {W : World} {B n c m : Nat} {A : Option Addr} {xs : List UInt8} (h : Txt W B (.slice A n c) xs) (hm : m ≤ n) : Txt W B (.slice A m c) (xs.take m) := by
 obtain ⟨A', cap, e, h1, h2, hn, h3⟩ := h
 cases e
 have hl : (xs.take m).length = m := by rw [List.length_take]; omega
 refine ⟨A, c, by rw [hl], by omega, h2, hn, fun hp => ?_⟩
 obtain ⟨b, off, ha, hb, hc⟩ := h3 (by omega)
 refine ⟨b, off, ha, hb, fun j hj => ?_⟩
 rw [List.getElem_take]
 exact hc j (by omega)
theorem infoPlanA : (Tryz.prog.info? 28).map (·.size) = some 6 := by kernel_rfl
end Go.Proofs.YteloiajocjahmaaGreatDoor
