/-
 The document's own package area: in, Same, Has.
 Conditions: none.
-/
import Derived.Test.YtneeocnjfnneoaaGreatVGAreM
import Derived.Test.YtneeocnjfnneoaaGreatVGPlnRefD
import Derived.Test.YtneeocnjfnneoaaGreatVGDifM
import Derived.Test.YtneeocnjfnneoaaGreatVGBase
import Derived.Maps.AppendAt
set_option linter.unusedVariables false
set_option linter.unusedSimpArgs false
set_option maxRecDepth 100000
namespace Go.Proofs.YtneeocnjfnneoaaGreat
open Go.RowKit

theorem cell4A {w : World} {b : Nat} {v0 v1 v2 v3 : Value} {t : TypeId} {fr : Nat × Nat} (h : w.heap[b]? = some (.cells #[v0, v1, v2, v3] t fr)) : w.cell? ⟨b, 0, none⟩ = some v0 ∧ w.cell? ⟨b, 1, none⟩ = some v1 ∧ w.cell? ⟨b, 2, none⟩ = some v2 ∧ w.cell? ⟨b, 3, none⟩ = some v3 :=
 ⟨cell_of_row _ _ _ _ _ _ h, cell_of_row _ _ _ _ _ _ h, cell_of_row _ _ _ _ _ _ h, cell_of_row _ _ _ _ _ _ h⟩
theorem ar_eq {x y : Ar} : x = y ↔ x.secs = y.secs ∧ x.pts = y.pts ∧ x.sigs = y.sigs ∧ x.routes = y.routes := by
 obtain ⟨a1, a2, a3, a4⟩ := x
 obtain ⟨b1, b2, b3, b4⟩ := y
 simp
set_option maxHeartbeats 8000000 in
theorem rsame14_any (v y : Value) (x z : Ar) (w : World) (h : AreaV w w.heap.size v x) (h' : AreaV w w.heap.size y z) :
  Calls Tryz.prog 19 #[v, y] w fun e w' => e = .returned (.bool (eqB x z)) ∧ Below w.heap.size w w' := by
 obtain ⟨u0, u1, u2, u3, rfl, hin⟩ := h
 obtain ⟨z0, z1, z2, z3, rfl, hin'⟩ := h'
 obtain ⟨h0, h1, hqb⟩ := two_boxes w (.cells #[u0, u1, u2, u3] 24) (.cells #[z0, z1, z2, z3] 24)
 go_enter Tryz.func19, Tryz.ntmps19
 go_upto_region 1 with fail
 generalize (w.alloc (.cells #[u0, u1, u2, u3] 24)).alloc (.cells #[z0, z1, z2, z3] 24) = q at h0 h1 hqb ⊢
 have X0 := Lib.hid h0
 have X1 := Lib.hid h1
 have BQ := Lib.hid hqb
 have IA := Lib.hid ((hin.below hqb).more hqb.size)
 have IB := Lib.hid ((hin'.below hqb).more hqb.size)
 clear h0 h1 hqb hin hin'
 obtain ⟨k0, k1, k2, k3⟩ := cell4A X0.out
 obtain ⟨l0, l1, l2, l3⟩ := cell4A X1.out
 go_wp2_with fail
 refine (rints_any _ _ x.secs z.secs q IA.out.secs IB.out.secs).mono ?_
 rintro e w1 ⟨rfl, bN⟩
 clear k0 k1 k2 k3 l0 l1 l2 l3
 replace X0 := Lib.hid ((bN.block _ (heap_lt X0.out)).trans X0.out)
 replace X1 := Lib.hid ((bN.block _ (heap_lt X1.out)).trans X1.out)
 replace BQ := Lib.hid (BQ.out.trans (bN.mono BQ.out.size))
 replace IA := Lib.hid ((IA.out.below bN).more bN.size)
 replace IB := Lib.hid ((IB.out.below bN).more bN.size)
 clear bN
 by_cases e0 : x.secs = z.secs
 rotate_left
 ·have HF : Hid (eqB x z = false) := Lib.hid (eqB_false fun e => e0 (by rw [e]))
  rw [decide_eq_false e0]
  clear e0
  go_wp2_with fail
  go_ret
  exact ⟨by rw [HF.out]; rfl, BQ.out⟩
 rw [decide_eq_true e0]
 obtain ⟨k0, k1, k2, k3⟩ := cell4A X0.out
 obtain ⟨l0, l1, l2, l3⟩ := cell4A X1.out
 go_wp2_with fail
 refine (rints_any _ _ x.pts z.pts w1 IA.out.pts IB.out.pts).mono ?_
 rintro e w2 ⟨rfl, bN⟩
 clear k0 k1 k2 k3 l0 l1 l2 l3
 replace X0 := Lib.hid ((bN.block _ (heap_lt X0.out)).trans X0.out)
 replace X1 := Lib.hid ((bN.block _ (heap_lt X1.out)).trans X1.out)
 replace BQ := Lib.hid (BQ.out.trans (bN.mono BQ.out.size))
 replace IA := Lib.hid ((IA.out.below bN).more bN.size)
 replace IB := Lib.hid ((IB.out.below bN).more bN.size)
 clear bN
 by_cases e1 : x.pts = z.pts
 rotate_left
 ·have HF : Hid (eqB x z = false) := Lib.hid (eqB_false fun e => e1 (by rw [e]))
  rw [decide_eq_false e1]
  clear e0 e1
  go_wp2_with fail
  go_ret
  exact ⟨by rw [HF.out]; rfl, BQ.out⟩
 rw [decide_eq_true e1]
 obtain ⟨k0, k1, k2, k3⟩ := cell4A X0.out
 obtain ⟨l0, l1, l2, l3⟩ := cell4A X1.out
 go_wp2_with fail
 refine (rints_any _ _ x.sigs z.sigs w2 IA.out.sigs IB.out.sigs).mono ?_
 rintro e w3 ⟨rfl, bN⟩
 clear k0 k1 k2 k3 l0 l1 l2 l3
 replace X0 := Lib.hid ((bN.block _ (heap_lt X0.out)).trans X0.out)
 replace X1 := Lib.hid ((bN.block _ (heap_lt X1.out)).trans X1.out)
 replace BQ := Lib.hid (BQ.out.trans (bN.mono BQ.out.size))
 replace IA := Lib.hid ((IA.out.below bN).more bN.size)
 replace IB := Lib.hid ((IB.out.below bN).more bN.size)
 clear bN
 by_cases e2 : x.sigs = z.sigs
 rotate_left
 ·have HF : Hid (eqB x z = false) := Lib.hid (eqB_false fun e => e2 (by rw [e]))
  rw [decide_eq_false e2]
  clear e0 e1 e2
  go_wp2_with fail
  go_ret
  exact ⟨by rw [HF.out]; rfl, BQ.out⟩
 rw [decide_eq_true e2]
 obtain ⟨k0, k1, k2, k3⟩ := cell4A X0.out
 obtain ⟨l0, l1, l2, l3⟩ := cell4A X1.out
 go_wp2_with fail
 refine (rints_any _ _ x.routes z.routes w3 IA.out.routes IB.out.routes).mono ?_
 rintro e w4 ⟨rfl, bN⟩
 clear k0 k1 k2 k3 l0 l1 l2 l3
 replace X0 := Lib.hid ((bN.block _ (heap_lt X0.out)).trans X0.out)
 replace X1 := Lib.hid ((bN.block _ (heap_lt X1.out)).trans X1.out)
 replace BQ := Lib.hid (BQ.out.trans (bN.mono BQ.out.size))
 replace IA := Lib.hid ((IA.out.below bN).more bN.size)
 replace IB := Lib.hid ((IB.out.below bN).more bN.size)
 clear bN
 by_cases e3 : x.routes = z.routes
 rotate_left
 ·have HF : Hid (eqB x z = false) := Lib.hid (eqB_false fun e => e3 (by rw [e]))
  rw [decide_eq_false e3]
  clear e0 e1 e2 e3
  go_wp2_with fail
  go_ret
  exact ⟨by rw [HF.out]; rfl, BQ.out⟩
 rw [decide_eq_true e3]
 have HF : Hid (eqB x z = true) := Lib.hid (eqB_true (ar_eq.2 ⟨e0, e1, e2, e3⟩))
 clear e0 e1 e2 e3
 go_wp2_with fail
 go_ret
 exact ⟨by rw [HF.out]; rfl, BQ.out⟩

theorem gb_low14 {a b : World} {L g : Nat} (h : a.grownBy b (some g)) (hg : L ≤ g) (hL : L ≤ a.heap.size) : Below L a b := (Below.refl L a).grown h hL (fun k hk => by injection hk with hk; omega)
section
variable {α : Type} {T tS : TypeId} {sz : Nat} {R : El α} {W : World} {lo n c ty : Nat} {A : Option Addr} {L : List α} {x : α} {ys : List Value}
end
theorem slI14 : SliceOf 22 3 1 := ⟨Tryz.underlying22, by obtain ⟨i, hi, h1, h2, h3⟩ := info_parts infoInt; exact ⟨i, _, hi, h1, by decide, h2, by decide, by omega⟩⟩
/-- An area's four lists, the call's own. -/
structure ArOwn (W : World) (lo : Nat) (u0 u1 u2 u3 : Value) (x : Ar) : Prop where
 secs : IntsOwn W lo u0 x.secs
 pts : IntsOwn W lo u1 x.pts
 sigs : IntsOwn W lo u2 x.sigs
 routes : IntsOwn W lo u3 x.routes
/-- Such an area in a box. -/
structure ArBox (W : World) (lo b : Nat) (u0 u1 u2 u3 : Value) (x : Ar) : Prop where
 row : W.heap[b]? = some (.cells #[u0, u1, u2, u3] 24 (0, 0))
 low : b ≤ lo
 size : lo ≤ W.heap.size
 own : ArOwn W lo u0 u1 u2 u3 x
section
variable {W W' : World} {lo b : Nat} {u0 u1 u2 u3 : Value} {x : Ar}
theorem own_off14 {α : Type} {T T' : TypeId} {sz : Nat} {R : El α} {lo : Nat} {v : Value} {l : List α} {k : Nat} (hf : FlatR R) (h : ListOwn T sz R W lo v l) (hg : W.grownBy W' (some k)) (hT : T ≠ T') (hk : ∃ cur, W.heap[k]? = some (.cells cur T' (0, 0))) : ListOwn T sz R W' lo v l :=
 own_kept hf h hg fun k' hk' e => by
  subst e
  obtain ⟨cur', hc', -⟩ := own_block h hk'
  obtain ⟨cur, hc⟩ := hk
  rw [hc] at hc'
  injection hc' with hc'
  injection hc' with _ e
  exact hT e.symm
theorem ArOwn.below (h : ArOwn W lo u0 u1 u2 u3 x) (hb : Below W.heap.size W W') : ArOwn W' lo u0 u1 u2 u3 x := ⟨h.secs.below intR hb, h.pts.below intR hb, h.sigs.below intR hb, h.routes.below intR hb⟩
theorem ArOwn.mono {lo' : Nat} (h : ArOwn W lo u0 u1 u2 u3 x) (hl : lo' ≤ lo) : ArOwn W lo' u0 u1 u2 u3 x := ⟨h.secs.mono hl, h.pts.mono hl, h.sigs.mono hl, h.routes.mono hl⟩
theorem ArOwn.in_ (h : ArOwn W lo u0 u1 u2 u3 x) : ArIn W W.heap.size u0 u1 u2 u3 x := ⟨h.secs.in_ intR_cells, h.pts.in_ intR_cells, h.sigs.in_ intR_cells, h.routes.in_ intR_cells⟩
/-- Something is written into a box of an area: lists of numbers stay. -/
theorem ArOwn.off (h : ArOwn W lo u0 u1 u2 u3 x) {g : Nat} (hg : W.grownBy W' (some g)) (hk : ∃ cur, W.heap[g]? = some (.cells cur 24 (0, 0))) : ArOwn W' lo u0 u1 u2 u3 x := ⟨own_off14 intF h.secs hg (by decide) hk, own_off14 intF h.pts hg (by decide) hk, own_off14 intF h.sigs hg (by decide) hk, own_off14 intF h.routes hg (by decide) hk⟩
theorem ArBox.lt (h : ArBox W lo b u0 u1 u2 u3 x) : b < W.heap.size := heap_lt h.row
theorem ArBox.below (h : ArBox W lo b u0 u1 u2 u3 x) (hb : Below W.heap.size W W') : ArBox W' lo b u0 u1 u2 u3 x := ⟨(hb.block _ h.lt).trans h.row, h.low, Nat.le_trans h.size hb.size, h.own.below hb⟩
theorem ArBox.put (h : ArBox W lo b u0 u1 u2 u3 x) {lo' : Nat} {u : Value} {l : List Int} (hu : IntsOwn W lo' u l) (k : Nat) (y : Value) : IntsOwn (W.setCell ⟨b, k, none⟩ y) lo' u l := own_off14 intF hu (grown_setK W b k y) (by decide) ⟨_, h.row⟩
theorem ArBox.kept (h : ArBox W lo b u0 u1 u2 u3 x) (k : Nat) (y : Value) : Below b W (W.setCell ⟨b, k, none⟩ y) := gb_low14 (grown_setK W b k y) (Nat.le_refl _) (Nat.le_of_lt h.lt)
end
/-- No two of the lists lie in one block. -/
def Off14 (u v : Value) : Prop := ∀ k, u.ownBlock = some k → v.ownBlock ≠ some k
theorem Off14.symm {u v : Value} (h : Off14 u v) : Off14 v u := fun k h1 h2 => h k h2 h1
structure Apart14 (u0 u1 u2 u3 : Value) : Prop where
 o01 : Off14 u0 u1
 o02 : Off14 u0 u2
 o03 : Off14 u0 u3
 o12 : Off14 u1 u2
 o13 : Off14 u1 u3
 o23 : Off14 u2 u3
section
variable {W W1 W' : World} {lo b : Nat} {u0 u1 u2 u3 : Value} {x : Ar}
end

theorem infoArea4 : (Tryz.prog.info? 24).map (·.size) = some 4 := by kernel_rfl
end Go.Proofs.YtneeocnjfnneoaaGreat
