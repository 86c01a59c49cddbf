/-
  A slice of bytes that comes in as an argument reads as a text; a text that is made; a text as a string.
  Conditions: none.
-/
import Derived.Test.YtdjoflhcagfmiaaTxt
import Derived.Test.YtdjoflhcagfmiaaRows
import Derived.ProofKit
import Derived.OpenShut
import Derived.ShutString
import Derived.ChangeOld
import Derived.Laws.Rows
import Derived.Laws.BytesString
import Derived.Laws.IdiomStrings
import Derived.WalkKit
set_option linter.unusedVariables false
set_option linter.unusedSimpArgs false
set_option maxRecDepth 100000
namespace Go.Proofs.Ytdjoflhcagfmiaa
open Go.ChangeShapes Go.WideShapes Go.ChangeAt Go.RowKit

/-- A text as a string. -/
theorem run_txt_string {W : World} {B : Nat} {v : Value} {xs : List UInt8} (h : Txt W B v xs) : (convert 34 9 v).run Try.prog W = .ok (.string ⟨xs.toArray⟩) W := by
  obtain ⟨A, cap, rfl, _, _, hn, _⟩ := id h
  cases A with
  | none =>
    obtain rfl := hn rfl
    have hl : xs.length = 0 := by obtain ⟨_, _, e, h1, _⟩ := h; cases e; omega
    obtain rfl : xs = [] := List.eq_nil_of_length_eq_zero hl
    rw [run_convert_bytes_string W _ _ 5 none _ 0 Try.underlying34 Try.underlying5 Try.underlying9]
    rfl
  | some a =>
    refine run_convert_bytes_back W _ _ 5 a cap xs Try.underlying34 Try.underlying5 Try.underlying9 (fun j hj => ?_)
    exact h.cells j _ (by rw [List.getElem?_map, List.getElem?_eq_getElem hj]; rfl)

theorem txt_new (w : World) (t : TypeId) (xs : List UInt8) (h : xs.length ≤ maxLen) : Txt (w.alloc (.cells (xs.map u8).toArray t)) (w.alloc (.cells (xs.map u8).toArray t)).heap.size (.slice (some ⟨w.heap.size, 0, none⟩) xs.length xs.length) xs :=
  ⟨_, _, rfl, Nat.le_refl _, h, fun e => (by cases e), fun _ => ⟨_, _, rfl, by simp, fun j hj => by
    have hn : (w.alloc (.cells (xs.map u8).toArray t)).heap[w.heap.size]? = some (.cells (xs.map u8).toArray t (0, 0)) := World.alloc_heap_new w _
    rw [Nat.zero_add, cell_of_row _ _ _ _ t (0, 0) hn]
    simp [hj]⟩⟩
theorem txt_mark (w : World) (t : TypeId) (xs : List UInt8) (fr : Nat × Nat) (h : xs.length ≤ maxLen) : Txt (w.alloc (.cells (xs.map u8).toArray t fr)) (w.alloc (.cells (xs.map u8).toArray t fr)).heap.size (.slice (some ⟨w.heap.size, 0, none⟩) xs.length xs.length) xs :=
  ⟨_, _, rfl, Nat.le_refl _, h, fun e => (by cases e), fun _ => ⟨_, _, rfl, by simp, fun j hj => by
    rw [Nat.zero_add, World.cell?_alloc_mark]
    simp [hj]⟩⟩
theorem below_new (w : World) (o : Obj) : Below w.heap.size w (w.alloc o) := (Below.refl _ w).alloc (Nat.le_refl _) o

theorem cell_lt {W : World} {p : Addr} {v : Value} (h : W.cell? p = some v) : p.block < W.heap.size := by
  rcases Nat.lt_or_ge p.block W.heap.size with hlt | hge
  · exact hlt
  · simp [World.cell?, Array.getElem?_eq_none hge] at h

set_option maxRecDepth 100000 in
theorem txt_of_arg {H : Type} {enc : TypeId × Value → H} {W : World} {base : Nat} {v : Value} {d : DataW H} {p : List MemPlace} (hval : Value.okWide Try.prog W .any base 34 v) (h : DataW.Trod enc Try.prog W 0 (fun _ => true) true 34 v d p) :
    ∃ xs, Txt W W.heap.size v xs := by
  obtain ⟨a, len, cap, rfl⟩ := okWide_slice Try.underlying34 hval
  obtain ⟨fuel, hf⟩ := h
  rcases open_ints Try.underlying34 Try.underlying5 (by kernel_rfl) hf with ⟨hcs, _⟩ | ⟨x, l, c, zs, hcs, _, hl, hm, hz, _, hcell, hwz⟩
  · simp [Value.cells] at hcs
    obtain ⟨rfl, rfl, rfl⟩ := hcs
    exact ⟨[], Txt.nil_ _ _⟩
  · simp [Value.cells] at hcs
    obtain ⟨rfl, rfl, rfl⟩ := hcs
    simp only [if_true] at hz
    have hlen : ((zs.take len).map fun n => UInt8.ofNat n.toNat).length = len := by simp; omega
    refine ⟨(zs.take len).map fun n => UInt8.ofNat n.toNat, some x, cap, by rw [hlen], by rw [hlen]; exact hl, hm, fun e => (by cases e), fun hp => ?_⟩
    rw [hlen] at hp
    obtain ⟨b, off, spot⟩ := x
    have hspot : spot = none := by simpa [Addr.add] using World.cell?_spot (hcell 0 (by omega))
    subst hspot
    refine ⟨b, off, rfl, by simpa [Addr.add] using cell_lt (hcell 0 (by omega)), fun j hj => ?_⟩
    rw [hlen] at hj
    have hcj := hcell j (by omega)
    rw [Addr.add_lit] at hcj
    rw [hcj]
    have hb := range_u8 hwz j
    have e : zs.getD j 0 = zs[j]'(by omega) := by simp [List.getD, List.getElem?_eq_getElem (show j < zs.length by omega)]
    rw [List.getD_eq_getElem?_getD] at e ⊢
    rw [e] at hb ⊢
    simp only [List.getElem_map, List.getElem_take, u8, UInt8.toNat_ofNat']
    congr 2
    omega
theorem laidOut_ : laidOutB Try.prog = true := by kernel_rfl
theorem own_ : ownKnob Try.prog.godebug = none := by kernel_rfl
theorem own_slice_ {w : World} {base e n : Nat} {v : Value} {ys : List Value} (h : w.ownsRow base e 1 v n ys) : ∃ A c, v = .slice A n c := by
  rcases h.2 with ⟨rfl, rfl⟩ | ⟨g, cap, cur, rfl, _⟩
  · exact ⟨none, 0, rfl⟩
  · exact ⟨_, _, rfl⟩

theorem Txt.sub {W : World} {B : Nat} {A : Option Addr} {cap k L : Nat} {xs : List UInt8} (h : Txt W B (.slice A xs.length cap) xs) (hL : 0 < L) (hk : k + L ≤ xs.length) :
    ∃ b off, A = some ⟨b, off, none⟩ ∧ xs.length ≤ cap ∧ Txt W B (.slice (some ⟨b, off + k, none⟩) L (cap - k)) ((xs.drop k).take L) := by
  obtain ⟨A', cap', e, h1, h2, hn, h3⟩ := h
  cases e
  obtain ⟨b, off, rfl, hb, hc⟩ := h3 (by omega)
  have hl : ((xs.drop k).take L).length = L := by simp; omega
  refine ⟨b, off, rfl, h1, _, _, by rw [hl], by rw [hl]; omega, by omega, fun e => (by cases e), fun _ => ⟨b, off + k, rfl, hb, fun j hj => ?_⟩⟩
  rw [hl] at hj
  rw [Nat.add_assoc, hc (k + j) (by omega)]
  simp
theorem below_drewN {B : Nat} {W W' : World} (h : Below B W W') (n : Nat) : Below B W (W'.drewN n) := ⟨h.os, h.tape, h.output, h.size, h.block⟩
theorem Txt.drewN {W : World} {B : Nat} {v : Value} {xs : List UInt8} (h : Txt W B v xs) (n : Nat) : Txt (W.drewN n) B v xs := h

theorem owns_below {w w' : World} {base e size n : Nat} {v : Value} {ys : List Value} (h : w.ownsRow base e size v n ys) (hb : Below w.heap.size w w') : w'.ownsRow base e size v n ys := by
  refine ⟨h.1, ?_⟩
  rcases h.2 with h2 | ⟨g, cap, cur, h1, h2, h3, h4⟩
  · exact .inl h2
  · exact .inr ⟨g, cap, cur, h1, h2, (hb.block g (Array.getElem?_eq_some_iff.1 h3).1).trans h3, h4⟩
theorem below_of_drew {w w' : World} (h : Below w.drew.heap.size w.drew w') : Below w.heap.size w w' := ⟨h.os, h.tape, h.output, h.size, h.block⟩
theorem infoByte : (Try.prog.info? 5).map (fun i => (i.zero, i.size, i.bytes)) = some (some (.int .u8 0), 1, 1) := by kernel_rfl
end Go.Proofs.Ytdjoflhcagfmiaa
