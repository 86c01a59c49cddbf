/-
 The document's own package area: in, Same, Has.
 Conditions: none.
-/
import Derived.Test.YtneeocnjfnneoaaQGAreM
import Derived.Test.YtneeocnjfnneoaaQGPlnRefD
import Derived.Test.YtneeocnjfnneoaaQGDifM
import Derived.Test.YtneeocnjfnneoaaQGBase
import Derived.Test.YtneeocnjfnneoaaQGPlnRefC
import Derived.Test.YtneeocnjfnneoaaQGTrkRef
import Derived.Test.YtneeocnjfnneoaaQGPlnRefB
import Derived.Maps.AppendAt
set_option linter.unusedVariables false
set_option linter.unusedSimpArgs false
set_option maxRecDepth 100000
namespace Go.Proofs.Ytneeocnjfnneoaa
open Go.RowKit

theorem cell4A {w : World} {b : Nat} {v0 v1 v2 v3 : Value} {t : TypeId} {fr : Nat × Nat} (h : w.heap[b]? = some (.cells #[v0, v1, v2, v3] t fr)) : w.cell? ⟨b, 0, none⟩ = some v0 ∧ w.cell? ⟨b, 1, none⟩ = some v1 ∧ w.cell? ⟨b, 2, none⟩ = some v2 ∧ w.cell? ⟨b, 3, none⟩ = some v3 :=
 ⟨cell_of_row _ _ _ _ _ _ h, cell_of_row _ _ _ _ _ _ h, cell_of_row _ _ _ _ _ _ h, cell_of_row _ _ _ _ _ _ h⟩
set_option maxHeartbeats 2000000 in
theorem rin14_any (v : Value) (l : List Int) (z : Int) (B : Nat) (w : World) (h : IntsIn w B v l) :
  Calls Try.prog 10 #[v, .int .i64 z] w fun e w' => e = .returned (.bool (decide (z ∈ l))) ∧ w = w' := by
 obtain ⟨A, c, rfl, hcl, hcm⟩ := h.slice
 obtain ⟨n, hn⟩ : ∃ n, n = l.length := ⟨_, rfl⟩
 have HA : Hid (IntsIn w B (.slice A n c) l) := Lib.hid (by rw [hn]; exact h)
 have hn9 : n ≤ 9223372036854775807 := by unfold maxLen at hcm; omega
 have HN := Lib.hid hn
 have HD : Hid (∀ g : Bool, (g = true ↔ z ∈ l) → g = decide (z ∈ l)) := Lib.hid (fun g h => by rw [Bool.eq_iff_iff, decide_eq_true_iff]; exact h)
 generalize hg : decide (z ∈ l) = g at HD ⊢
 rw [← hn]
 clear hn h hcl hcm hg
 go_enter Try.func10, Try.ntmps10
 go_upto_region 2 with fail
 go_loopw [5] (fun s5 wr => ∃ i : Nat, s5 = .int .i64 i ∧ i ≤ n ∧ wr = w ∧ (∀ j (hj : j < i) (hl : j < l.length), l[j] ≠ z)) (fun s5 _ => n - (intOf s5).toNat)
 case atStart => exact ⟨0, by go_num, by omega, rfl, fun j hj => absurd hj (by omega)⟩
 case round =>
  obtain ⟨i, rfl, hi, rfl, hall⟩ := hrel
  have HALL := Lib.hid hall
  clear hall
  by_cases hlt : i < n
  ·have hlt' : (i : Int) < n := by omega
   have hir : i < l.length := by rw [← HN.out]; exact hlt
   obtain ⟨b, off, rfl, hb, hc0⟩ := HA.out.at hir
   obtain ⟨x, hx⟩ : ∃ x, x = l[i] := ⟨_, rfl⟩
   have HX := Lib.hid hx
   have hcell : wr.cell? ⟨b, off + i, none⟩ = some (.int .i64 x) := by rw [hx]; simpa [IntR] using hc0
   clear hc0 hb hx
   by_cases he : x = z
   ·have hne : (x == z) = true := by simpa using he
    have HF : Hid (true = g) := Lib.hid (HD.out true ⟨fun _ => he ▸ HX.out ▸ List.getElem_mem hir, fun _ => rfl⟩)
    clear he
    go_wp2_with fail
    go_ret
    exact ⟨by rw [← HF.out]; rfl, rfl⟩
   ·have hne : (x == z) = false := by simpa using he
    have HS : Hid (∀ j (hj : j < i + 1) (hl : j < l.length), l[j] ≠ z) := Lib.hid (fun j hj hl => by
     rcases Nat.lt_or_ge j i with h | h
     ·exact HALL.out j h hl
     ·obtain rfl : j = i := by omega
      rw [← HX.out]; exact he)
    clear he
    go_wp2_with fail
    go_roundw
    case measure => simp [intOf]; omega
    case rel => exact ⟨i + 1, by go_num, by omega, by trivial, HS.out⟩
  ·obtain rfl : n = i := by omega
   have hlt' : ¬ (n : Int) < n := by omega
   have HF : Hid (false = g) := Lib.hid (HD.out false ⟨fun h => Bool.noConfusion h, fun h => by
    obtain ⟨j, hj, e⟩ := List.getElem_of_mem h
    exact absurd e (HALL.out j (by rw [HN.out]; exact hj) hj)⟩)
   go_wp2_with fail
   go_ret
   exact ⟨by rw [← HF.out]; rfl, rfl⟩
theorem ar_eq {x y : Ar} : x = y ↔ x.secs = y.secs ∧ x.pts = y.pts ∧ x.sigs = y.sigs ∧ x.routes = y.routes := by
 obtain ⟨a1, a2, a3, a4⟩ := x
 obtain ⟨b1, b2, b3, b4⟩ := y
 simp
set_option maxHeartbeats 8000000 in
theorem rsame14_any (v y : Value) (x z : Ar) (w : World) (h : AreaV w w.heap.size v x) (h' : AreaV w w.heap.size y z) :
  Calls Try.prog 8 #[v, y] w fun e w' => e = .returned (.bool (eqB x z)) ∧ Below w.heap.size w w' := by
 obtain ⟨u0, u1, u2, u3, rfl, hin⟩ := h
 obtain ⟨z0, z1, z2, z3, rfl, hin'⟩ := h'
 obtain ⟨h0, h1, hqb⟩ := two_boxes w (.cells #[u0, u1, u2, u3] 24) (.cells #[z0, z1, z2, z3] 24)
 go_enter Try.func8, Try.ntmps8
 go_upto_region 1 with fail
 generalize (w.alloc (.cells #[u0, u1, u2, u3] 24)).alloc (.cells #[z0, z1, z2, z3] 24) = q at h0 h1 hqb ⊢
 have X0 := Lib.hid h0
 have X1 := Lib.hid h1
 have BQ := Lib.hid hqb
 have IA := Lib.hid ((hin.below hqb).more hqb.size)
 have IB := Lib.hid ((hin'.below hqb).more hqb.size)
 clear h0 h1 hqb hin hin'
 obtain ⟨k0, k1, k2, k3⟩ := cell4A X0.out
 obtain ⟨l0, l1, l2, l3⟩ := cell4A X1.out
 go_wp2_with fail
 refine (rints_any _ _ x.secs z.secs q IA.out.secs IB.out.secs).mono ?_
 rintro e w1 ⟨rfl, bN⟩
 clear k0 k1 k2 k3 l0 l1 l2 l3
 replace X0 := Lib.hid ((bN.block _ (heap_lt X0.out)).trans X0.out)
 replace X1 := Lib.hid ((bN.block _ (heap_lt X1.out)).trans X1.out)
 replace BQ := Lib.hid (BQ.out.trans (bN.mono BQ.out.size))
 replace IA := Lib.hid ((IA.out.below bN).more bN.size)
 replace IB := Lib.hid ((IB.out.below bN).more bN.size)
 clear bN
 by_cases e0 : x.secs = z.secs
 rotate_left
 ·have HF : Hid (eqB x z = false) := Lib.hid (eqB_false fun e => e0 (by rw [e]))
  rw [decide_eq_false e0]
  clear e0
  go_wp2_with fail
  go_ret
  exact ⟨by rw [HF.out]; rfl, BQ.out⟩
 rw [decide_eq_true e0]
 obtain ⟨k0, k1, k2, k3⟩ := cell4A X0.out
 obtain ⟨l0, l1, l2, l3⟩ := cell4A X1.out
 go_wp2_with fail
 refine (rints_any _ _ x.pts z.pts w1 IA.out.pts IB.out.pts).mono ?_
 rintro e w2 ⟨rfl, bN⟩
 clear k0 k1 k2 k3 l0 l1 l2 l3
 replace X0 := Lib.hid ((bN.block _ (heap_lt X0.out)).trans X0.out)
 replace X1 := Lib.hid ((bN.block _ (heap_lt X1.out)).trans X1.out)
 replace BQ := Lib.hid (BQ.out.trans (bN.mono BQ.out.size))
 replace IA := Lib.hid ((IA.out.below bN).more bN.size)
 replace IB := Lib.hid ((IB.out.below bN).more bN.size)
 clear bN
 by_cases e1 : x.pts = z.pts
 rotate_left
 ·have HF : Hid (eqB x z = false) := Lib.hid (eqB_false fun e => e1 (by rw [e]))
  rw [decide_eq_false e1]
  clear e0 e1
  go_wp2_with fail
  go_ret
  exact ⟨by rw [HF.out]; rfl, BQ.out⟩
 rw [decide_eq_true e1]
 obtain ⟨k0, k1, k2, k3⟩ := cell4A X0.out
 obtain ⟨l0, l1, l2, l3⟩ := cell4A X1.out
 go_wp2_with fail
 refine (rints_any _ _ x.sigs z.sigs w2 IA.out.sigs IB.out.sigs).mono ?_
 rintro e w3 ⟨rfl, bN⟩
 clear k0 k1 k2 k3 l0 l1 l2 l3
 replace X0 := Lib.hid ((bN.block _ (heap_lt X0.out)).trans X0.out)
 replace X1 := Lib.hid ((bN.block _ (heap_lt X1.out)).trans X1.out)
 replace BQ := Lib.hid (BQ.out.trans (bN.mono BQ.out.size))
 replace IA := Lib.hid ((IA.out.below bN).more bN.size)
 replace IB := Lib.hid ((IB.out.below bN).more bN.size)
 clear bN
 by_cases e2 : x.sigs = z.sigs
 rotate_left
 ·have HF : Hid (eqB x z = false) := Lib.hid (eqB_false fun e => e2 (by rw [e]))
  rw [decide_eq_false e2]
  clear e0 e1 e2
  go_wp2_with fail
  go_ret
  exact ⟨by rw [HF.out]; rfl, BQ.out⟩
 rw [decide_eq_true e2]
 obtain ⟨k0, k1, k2, k3⟩ := cell4A X0.out
 obtain ⟨l0, l1, l2, l3⟩ := cell4A X1.out
 go_wp2_with fail
 refine (rints_any _ _ x.routes z.routes w3 IA.out.routes IB.out.routes).mono ?_
 rintro e w4 ⟨rfl, bN⟩
 clear k0 k1 k2 k3 l0 l1 l2 l3
 replace X0 := Lib.hid ((bN.block _ (heap_lt X0.out)).trans X0.out)
 replace X1 := Lib.hid ((bN.block _ (heap_lt X1.out)).trans X1.out)
 replace BQ := Lib.hid (BQ.out.trans (bN.mono BQ.out.size))
 replace IA := Lib.hid ((IA.out.below bN).more bN.size)
 replace IB := Lib.hid ((IB.out.below bN).more bN.size)
 clear bN
 by_cases e3 : x.routes = z.routes
 rotate_left
 ·have HF : Hid (eqB x z = false) := Lib.hid (eqB_false fun e => e3 (by rw [e]))
  rw [decide_eq_false e3]
  clear e0 e1 e2 e3
  go_wp2_with fail
  go_ret
  exact ⟨by rw [HF.out]; rfl, BQ.out⟩
 rw [decide_eq_true e3]
 have HF : Hid (eqB x z = true) := Lib.hid (eqB_true (ar_eq.2 ⟨e0, e1, e2, e3⟩))
 clear e0 e1 e2 e3
 go_wp2_with fail
 go_ret
 exact ⟨by rw [HF.out]; rfl, BQ.out⟩
set_option maxHeartbeats 8000000 in
theorem rhas14_any (v : Value) (x : Ar) (kind id : Int) (w : World) (h : AreaV w w.heap.size v x) :
  Calls Try.prog 6 #[v, .int .u8 kind, .int .i64 id] w fun e w' => e = .returned (.bool (hasA x kind id)) ∧ Below w.heap.size w w' := by
 obtain ⟨u0, u1, u2, u3, rfl, hin⟩ := h
 have h0 := heap_alloc_self w (.cells #[u0, u1, u2, u3] 24)
 have hqb := below_new w (.cells #[u0, u1, u2, u3] 24)
 go_enter Try.func6, Try.ntmps6
 go_upto_region 1 with fail
 generalize w.alloc (.cells #[u0, u1, u2, u3] 24) = q at h0 hqb ⊢
 have BQ := Lib.hid hqb
 have IA := Lib.hid ((hin.below hqb).more hqb.size)
 obtain ⟨k0, k1, k2, k3⟩ := cell4A h0
 clear h0 hqb hin
 by_cases e1 : kind = 1
 ·have d1 : (kind == 1) = true := by simpa using e1
  have HV : Hid (hasA x kind id = decide (id ∈ x.secs)) := Lib.hid (by unfold hasA; rw [if_pos e1])
  clear e1
  go_wp2_with fail
  refine (rin14_any _ x.secs id _ q IA.out.secs).mono ?_
  rintro e w1 ⟨rfl, rfl⟩
  go_wp2_with fail
  go_ret
  exact ⟨by rw [HV.out]; rfl, BQ.out⟩
 have d1 : (kind == 1) = false := by simpa using e1
 by_cases e2 : kind = 2
 ·have d2 : (kind == 2) = true := by simpa using e2
  have HV : Hid (hasA x kind id = decide (id ∈ x.pts)) := Lib.hid (by unfold hasA; rw [if_neg e1, if_pos e2])
  clear e1 e2
  go_wp2_with fail
  refine (rin14_any _ x.pts id _ q IA.out.pts).mono ?_
  rintro e w1 ⟨rfl, rfl⟩
  go_wp2_with fail
  go_ret
  exact ⟨by rw [HV.out]; rfl, BQ.out⟩
 have d2 : (kind == 2) = false := by simpa using e2
 by_cases e3 : kind = 3
 ·have d3 : (kind == 3) = true := by simpa using e3
  have HV : Hid (hasA x kind id = decide (id ∈ x.sigs)) := Lib.hid (by unfold hasA; rw [if_neg e1, if_neg e2, if_pos e3])
  clear e1 e2 e3
  go_wp2_with fail
  refine (rin14_any _ x.sigs id _ q IA.out.sigs).mono ?_
  rintro e w1 ⟨rfl, rfl⟩
  go_wp2_with fail
  go_ret
  exact ⟨by rw [HV.out]; rfl, BQ.out⟩
 have d3 : (kind == 3) = false := by simpa using e3
 by_cases e4 : kind = 4
 ·have d4 : (kind == 4) = true := by simpa using e4
  have HV : Hid (hasA x kind id = decide (id ∈ x.routes)) := Lib.hid (by unfold hasA; rw [if_neg e1, if_neg e2, if_neg e3, if_pos e4])
  clear e1 e2 e3 e4
  go_wp2_with fail
  refine (rin14_any _ x.routes id _ q IA.out.routes).mono ?_
  rintro e w1 ⟨rfl, rfl⟩
  go_wp2_with fail
  go_ret
  exact ⟨by rw [HV.out]; rfl, BQ.out⟩
 have d4 : (kind == 4) = false := by simpa using e4
 have HV : Hid (hasA x kind id = false) := Lib.hid (by unfold hasA; rw [if_neg e1, if_neg e2, if_neg e3, if_neg e4])
 clear e1 e2 e3 e4
 go_wp2_with fail
 go_ret
 exact ⟨by rw [HV.out]; rfl, BQ.out⟩

theorem gb_low14 {a b : World} {L g : Nat} (h : a.grownBy b (some g)) (hg : L ≤ g) (hL : L ≤ a.heap.size) : Below L a b := (Below.refl L a).grown h hL (fun k hk => by injection hk with hk; omega)
section
variable {α : Type} {T tS : TypeId} {sz : Nat} {R : El α} {W : World} {lo n c ty : Nat} {A : Option Addr} {L : List α} {x : α} {ys : List Value}
end
/-- An area's four lists, the call's own. -/
structure ArOwn (W : World) (lo : Nat) (u0 u1 u2 u3 : Value) (x : Ar) : Prop where
 secs : IntsOwn W lo u0 x.secs
 pts : IntsOwn W lo u1 x.pts
 sigs : IntsOwn W lo u2 x.sigs
 routes : IntsOwn W lo u3 x.routes
/-- Such an area in a box. -/
structure ArBox (W : World) (lo b : Nat) (u0 u1 u2 u3 : Value) (x : Ar) : Prop where
 row : W.heap[b]? = some (.cells #[u0, u1, u2, u3] 24 (0, 0))
 low : b ≤ lo
 size : lo ≤ W.heap.size
 own : ArOwn W lo u0 u1 u2 u3 x
section
variable {W W' : World} {lo b : Nat} {u0 u1 u2 u3 : Value} {x : Ar}
theorem own_off14 {α : Type} {T T' : TypeId} {sz : Nat} {R : El α} {lo : Nat} {v : Value} {l : List α} {k : Nat} (hf : FlatR R) (h : ListOwn T sz R W lo v l) (hg : W.grownBy W' (some k)) (hT : T ≠ T') (hk : ∃ cur, W.heap[k]? = some (.cells cur T' (0, 0))) : ListOwn T sz R W' lo v l :=
 own_kept hf h hg fun k' hk' e => by
  subst e
  obtain ⟨cur', hc', -⟩ := own_block h hk'
  obtain ⟨cur, hc⟩ := hk
  rw [hc] at hc'
  injection hc' with hc'
  injection hc' with _ e
  exact hT e.symm
theorem ArOwn.below (h : ArOwn W lo u0 u1 u2 u3 x) (hb : Below W.heap.size W W') : ArOwn W' lo u0 u1 u2 u3 x := ⟨h.secs.below intR hb, h.pts.below intR hb, h.sigs.below intR hb, h.routes.below intR hb⟩
theorem ArOwn.mono {lo' : Nat} (h : ArOwn W lo u0 u1 u2 u3 x) (hl : lo' ≤ lo) : ArOwn W lo' u0 u1 u2 u3 x := ⟨h.secs.mono hl, h.pts.mono hl, h.sigs.mono hl, h.routes.mono hl⟩
/-- Something is written into a box of an area: lists of numbers stay. -/
theorem ArOwn.off (h : ArOwn W lo u0 u1 u2 u3 x) {g : Nat} (hg : W.grownBy W' (some g)) (hk : ∃ cur, W.heap[g]? = some (.cells cur 24 (0, 0))) : ArOwn W' lo u0 u1 u2 u3 x := ⟨own_off14 intF h.secs hg (by decide) hk, own_off14 intF h.pts hg (by decide) hk, own_off14 intF h.sigs hg (by decide) hk, own_off14 intF h.routes hg (by decide) hk⟩
theorem ArBox.lt (h : ArBox W lo b u0 u1 u2 u3 x) : b < W.heap.size := heap_lt h.row
theorem ArBox.below (h : ArBox W lo b u0 u1 u2 u3 x) (hb : Below W.heap.size W W') : ArBox W' lo b u0 u1 u2 u3 x := ⟨(hb.block _ h.lt).trans h.row, h.low, Nat.le_trans h.size hb.size, h.own.below hb⟩
theorem ArBox.put (h : ArBox W lo b u0 u1 u2 u3 x) {lo' : Nat} {u : Value} {l : List Int} (hu : IntsOwn W lo' u l) (k : Nat) (y : Value) : IntsOwn (W.setCell ⟨b, k, none⟩ y) lo' u l := own_off14 intF hu (grown_setK W b k y) (by decide) ⟨_, h.row⟩
theorem ArBox.kept (h : ArBox W lo b u0 u1 u2 u3 x) (k : Nat) (y : Value) : Below b W (W.setCell ⟨b, k, none⟩ y) := gb_low14 (grown_setK W b k y) (Nat.le_refl _) (Nat.le_of_lt h.lt)
end
/-- No two of the lists lie in one block. -/
def Off14 (u v : Value) : Prop := ∀ k, u.ownBlock = some k → v.ownBlock ≠ some k
theorem Off14.symm {u v : Value} (h : Off14 u v) : Off14 v u := fun k h1 h2 => h k h2 h1
structure Apart14 (u0 u1 u2 u3 : Value) : Prop where
 o01 : Off14 u0 u1
 o02 : Off14 u0 u2
 o03 : Off14 u0 u3
 o12 : Off14 u1 u2
 o13 : Off14 u1 u3
 o23 : Off14 u2 u3
section
variable {W W1 W' : World} {lo b : Nat} {u0 u1 u2 u3 : Value} {x : Ar}
end
end Go.Proofs.Ytneeocnjfnneoaa
