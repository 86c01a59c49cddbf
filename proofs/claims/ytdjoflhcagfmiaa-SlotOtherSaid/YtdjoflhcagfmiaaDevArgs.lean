/-
  A disk and a list of numbers that come in as arguments read as such.
  Conditions: none.
-/
import Derived.Test.YtdjoflhcagfmiaaDevMem
import Derived.Test.YtdjoflhcagfmiaaRows
import Derived.Lib.SmallJoins
import Derived.Deep.Slices
import Derived.Deep.Fields
import Derived.ChangeSame
set_option linter.unusedVariables false
set_option linter.unusedSimpArgs false
set_option maxRecDepth 100000
namespace Go.Proofs.Ytdjoflhcagfmiaa
open Go.ChangeShapes Go.WideShapes Go.ChangeAt Go.RowKit Go.Joins Go.Deep

theorem nums_of_arg {H : Type} {enc : TypeId × Value → H} {W : World} {base : Nat} {v : Value} {d : DataW H} {p : List MemPlace} (hval : Value.okWide Try.prog W .any base 64 v) (h : DataW.Trod enc Try.prog W 0 (fun _ => true) true 64 v d p) :
    ∃ ks, NumsIn W W.heap.size v ks := by
  obtain ⟨a, len, cap, rfl⟩ := okWide_slice Try.underlying64 hval
  obtain ⟨fuel, hf⟩ := h
  rcases open_ints Try.underlying64 Try.underlying3 (by kernel_rfl) hf with ⟨hcs, _⟩ | ⟨x, l, c, zs, hcs, _, hl, hm, hz, _, hcell, hwz⟩
  · simp [Value.cells] at hcs
    obtain ⟨rfl, rfl, rfl⟩ := hcs
    exact ⟨[], none, 0, rfl, Nat.le_refl _, Nat.zero_le _, fun _ => rfl, fun h => absurd h (by simp)⟩
  · simp [Value.cells] at hcs
    obtain ⟨rfl, rfl, rfl⟩ := hcs
    simp only [if_true] at hz
    have hlen : (zs.take len).length = len := by simp; omega
    refine ⟨zs.take len, some x, cap, by rw [hlen], by rw [hlen]; exact hl, hm, fun e => (by cases e), fun hp => ?_⟩
    rw [hlen] at hp
    obtain ⟨b, off, spot⟩ := x
    have hspot : spot = none := by simpa [Addr.add] using World.cell?_spot (hcell 0 (by omega))
    subst hspot
    refine ⟨b, off, rfl, by simpa [Addr.add] using cell_lt (hcell 0 (by omega)), fun j hj => ?_⟩
    rw [hlen] at hj
    have hcj := hcell j (by omega)
    rw [Addr.add_lit] at hcj
    rw [hcj, List.getElem_take]
    have e : zs[j]? = some zs[j] := List.getElem?_eq_getElem (by omega)
    first
      | simp [List.getD, e]
      | simp [e]

/-- A slice of bytes, by its cells, reads as a text. -/
theorem txt_of_trod {H : Type} {enc : TypeId × Value → H} {W : World} {n : Nat} {v : Value} {y : DataW H × List MemPlace} (h : DataW.trod enc Try.prog W 0 (fun _ => true) true n 34 [v] = some y) :
    ∃ xs, Txt W W.heap.size v xs := by
  rcases open_ints Try.underlying34 Try.underlying5 (by kernel_rfl) h with ⟨hcs, _⟩ | ⟨x, l, c, zs, hcs, _, hl, hm, hz, _, hcell, hwz⟩
  · simp at hcs
    obtain rfl := hcs
    exact ⟨[], Txt.nil_ _ _⟩
  · simp at hcs
    obtain rfl := hcs
    simp only [if_true] at hz
    have hlen : ((zs.take l).map fun n => UInt8.ofNat n.toNat).length = l := by simp; omega
    refine ⟨(zs.take l).map fun n => UInt8.ofNat n.toNat, some x, c, by rw [hlen], by rw [hlen]; exact hl, hm, fun e => (by cases e), fun hp => ?_⟩
    rw [hlen] at hp
    obtain ⟨b, off, spot⟩ := x
    have hspot : spot = none := by simpa [Addr.add] using World.cell?_spot (hcell 0 (by omega))
    subst hspot
    refine ⟨b, off, rfl, by simpa [Addr.add] using cell_lt (hcell 0 (by omega)), fun j hj => ?_⟩
    rw [hlen] at hj
    have hcj := hcell j (by omega)
    rw [Addr.add_lit] at hcj
    rw [hcj]
    have hb := range_u8 hwz j
    have e : zs.getD j 0 = zs[j]'(by omega) := by simp [List.getD, List.getElem?_eq_getElem (show j < zs.length by omega)]
    rw [List.getD_eq_getElem?_getD] at e ⊢
    rw [e] at hb ⊢
    simp only [List.getElem_map, List.getElem_take, u8, UInt8.toNat_ofNat']
    congr 2
    omega

theorem addr_plain {W : World} {a : Addr} {j : Nat} (hj : j = 0) {v : Value} (h : W.cell? (a.add j) = some v) : ∃ b off, a = ⟨b, off, none⟩ := by
  subst hj
  obtain ⟨b, off, spot⟩ := a
  have hspot : spot = none := World.cell?_spot h
  subst hspot
  exact ⟨b, off, rfl⟩

theorem secs_of_trod {H : Type} {enc : TypeId × Value → H} {W : World} {n : Nat} {v : Value} {y : DataW H × List MemPlace} (h : DataW.trod enc Try.prog W 0 (fun _ => true) true n 26 [v] = some y) :
    ∃ ss, SecsIn W W.heap.size v ss := by
  rcases open_slice Try.underlying26 h with ⟨hcs, _⟩ | ⟨a, len, cap, m, n', D, Pl, hcs, _, hl, hm, hmm, _, hi⟩
  · simp at hcs
    subst hcs
    exact ⟨[], SecsIn.nil_⟩
  · simp at hcs
    subst hcs
    simp only [if_true] at hmm
    have hC : Try.prog.cellsOf 34 = 1 := by kernel_rfl
    have each : ∀ i, ∃ xs : Bs, i < m → ∃ u, W.cell? (a.add i) = some u ∧ Txt W W.heap.size u xs := fun i => by
      by_cases him : i < m
      · obtain ⟨cs', hc, ht⟩ := hi i him
        rw [hC, Nat.mul_one] at hc
        obtain ⟨_, hcl, hat⟩ := World.cells?_some hc
        match cs', hcl with
        | [u], _ =>
          obtain ⟨xs, hx⟩ := txt_of_trod ht
          have h0 := hat 0 (by omega)
          rw [Addr.add_add, Nat.add_zero] at h0
          exact ⟨xs, fun _ => ⟨u, h0, hx⟩⟩
      · exact ⟨[], fun h => absurd h him⟩
    obtain ⟨f, hf⟩ := Classical.axiomOfChoice each
    have hlen : ((List.range len).map f).length = len := by simp
    refine ⟨(List.range len).map f, some a, cap, by rw [hlen], by rw [hlen]; exact hl, hm, fun e => (by cases e), fun hp => ?_⟩
    rw [hlen] at hp
    obtain ⟨u0, h0, _⟩ := hf 0 (by omega)
    obtain ⟨b, off, rfl⟩ := addr_plain (by omega) h0
    refine ⟨b, off, rfl, by simpa [Addr.add] using cell_lt h0, fun j hj => ?_⟩
    rw [hlen] at hj
    obtain ⟨u, hu, ht⟩ := hf j (by omega)
    rw [Addr.add_lit] at hu
    exact ⟨u, hu, by simpa using ht⟩

theorem wts_of_trod {H : Type} {enc : TypeId × Value → H} {W : World} {n : Nat} {v : Value} {y : DataW H × List MemPlace} (h : DataW.trod enc Try.prog W 0 (fun _ => true) true n 27 [v] = some y) :
    ∃ ws, WtsIn W W.heap.size v ws := by
  rcases open_slice Try.underlying27 h with ⟨hcs, _⟩ | ⟨a, len, cap, m, n', D, Pl, hcs, _, hl, hm, hmm, _, hi⟩
  · simp at hcs
    subst hcs
    exact ⟨[], WtsIn.nil_⟩
  · simp at hcs
    subst hcs
    simp only [if_true] at hmm
    have hC : Try.prog.cellsOf 52 = 2 := by kernel_rfl
    have hC3 : Try.prog.cellsOf 3 = 1 := by kernel_rfl
    have hC30 : Try.prog.cellsOf 34 = 1 := by kernel_rfl
    have each : ∀ i, ∃ x : Wr, i < m → ∃ u, W.cell? (a.add (i * 2)) = some (.int .i64 x.1) ∧ W.cell? (a.add (i * 2 + 1)) = some u ∧ Txt W W.heap.size u x.2 := fun i => by
      by_cases him : i < m
      · obtain ⟨cs', hc, ht⟩ := hi i him
        rw [hC] at hc
        obtain ⟨_, hcl, hat⟩ := World.cells?_some hc
        match cs', hcl with
        | [c0, c1], _ =>
          obtain ⟨y0, y1, k, _, _, h0, h1⟩ := trod_struct2 Try.underlying52 ht
          simp only [hC3, hC30, List.drop_zero, List.drop_succ_cons, List.take_succ_cons, List.take_zero] at h0 h1
          obtain ⟨z, e0, _, _⟩ := DataW.trod_int Try.underlying3 h0
          obtain ⟨xs, hx⟩ := txt_of_trod h1
          have g0 := hat 0 (by omega)
          have g1 := hat 1 (by omega)
          rw [Addr.add_add, Nat.add_zero] at g0
          rw [Addr.add_add] at g1
          cases e0
          exact ⟨(z, xs), fun _ => ⟨c1, g0, g1, hx⟩⟩
      · exact ⟨(0, []), fun h => absurd h him⟩
    obtain ⟨f, hf⟩ := Classical.axiomOfChoice each
    have hlen : ((List.range len).map f).length = len := by simp
    refine ⟨(List.range len).map f, some a, cap, by rw [hlen], by rw [hlen]; exact hl, hm, fun e => (by cases e), fun hp => ?_⟩
    rw [hlen] at hp
    obtain ⟨u0, h0, _⟩ := hf 0 (by omega)
    obtain ⟨b, off, rfl⟩ := addr_plain (by omega) h0
    refine ⟨b, off, rfl, by simpa [Addr.add] using cell_lt h0, fun j hj => ?_⟩
    rw [hlen] at hj
    obtain ⟨u, hu0, hu1, ht⟩ := hf j (by omega)
    rw [Addr.add_lit] at hu0 hu1
    refine ⟨u, by simpa using hu0, ?_, by simpa using ht⟩
    rw [← Nat.add_assoc] at hu1
    exact hu1

theorem disk_of_arg {H : Type} {enc : TypeId × Value → H} {W : World} {base : Nat} {v : Value} {d : DataW H} {p : List MemPlace} (hval : Value.okWide Try.prog W .any base 29 v) (h : DataW.Trod enc Try.prog W 0 (fun _ => true) true 29 v d p) :
    ∃ ss ws, DiskIn W W.heap.size v ss ws := by
  obtain ⟨v0, v1, y0, y1, n, rfl, _, _, h0, h1⟩ := open_agg2 Try.underlying29 (by kernel_rfl) (by kernel_rfl) hval h
  obtain ⟨ss, hs⟩ := secs_of_trod h0
  obtain ⟨ws, hw⟩ := wts_of_trod h1
  exact ⟨ss, ws, v0, v1, rfl, hs, hw⟩
end Go.Proofs.Ytdjoflhcagfmiaa
