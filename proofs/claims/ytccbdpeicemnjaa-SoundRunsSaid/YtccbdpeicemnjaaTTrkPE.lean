/-
 The program's package track: slices.Index over ways, Out.
 Conditions: none.
-/
import Derived.Test.YtccbdpeicemnjaaTGTrkPA
set_option linter.unusedVariables false
set_option linter.unusedSimpArgs false
set_option maxRecDepth 100000
namespace Go.Proofs.Ytccbdpeicemnjaa
open Go.RowKit

theorem way_eq (a b : Bool) (x y : Int) (w : World) : (Op.equalIn 10000 100 (.agg #[.bool a, .int .i64 x]) (.agg #[.bool b, .int .i64 y])).run Try.prog w = .ok ((a == b) && (x == y)) w := by
 have haggi : (isAgg 3).run Try.prog w = .ok false w := by
  unfold isAgg
  rw [Sem.run_bind, run_underlying Try.underlying3 w]
  simp
 have haggb : (isAgg 4).run Try.prog w = .ok false w := by
  unfold isAgg
  rw [Sem.run_bind, run_underlying Try.underlying4 w]
  simp
 rw [run_equalIn_agg w 9999 100 _ _ (by rw [Program.fieldsOf, Try.underlying100]) (by kernel_rfl)]
 simp only [Program.fieldsOf, Try.underlying100, Op.eqFields]
 have hi : ∀ x y : Int, (Op.equalIn 9999 3 (.int .i64 x) (.int .i64 y)).run Try.prog w = .ok (x == y) w := fun x y => run_equalIn_int w 9998 3 .i64 .i64 x y Try.underlying3
 have hbb : ∀ x y : Bool, (Op.equalIn 9999 4 (.bool x) (.bool y)).run Try.prog w = .ok (x == y) w := fun x y => run_equalIn_bool w 9998 4 x y Try.underlying4
 by_cases h1 : a = b <;> by_cases h2 : x = y <;> simp [part, Sem.run_bind, Sem.run_ite, haggi, haggb, hi, hbb, h1, h2]

abbrev Wy7 := Bool × Int
def WayR : El Wy7 := fun W B c x => c 0 = some (.bool x.1) ∧ c 1 = some (.int .i64 x.2)
theorem wayR7 : Elem WayR := ⟨fun h _ => h, fun h _ => h⟩
def idxW (ws : List Wy7) (y : Wy7) : Int := match ws.findIdx? (fun z => decide (z = y)) with
 | some i => (i : Int)
 | none => -1
theorem idxW_none {l : List Wy7} {y : Wy7} (h : ∀ j (h : j < l.length), l[j] ≠ y) : idxW l y = -1 := by
 have : l.findIdx? (fun z => decide (z = y)) = none := by
  rw [List.findIdx?_eq_none_iff]
  intro x hx
  obtain ⟨j, hj, rfl⟩ := List.getElem_of_mem hx
  exact decide_eq_false (h j hj)
 rw [idxW, this]
theorem idxW_some {l : List Wy7} {y : Wy7} {i : Nat} (hi : i < l.length) (he : l[i] = y) (h : ∀ j (h : j < i), (l[j]'(by omega)) ≠ y) : idxW l y = (i : Int) := by
 have : l.findIdx? (fun z => decide (z = y)) = some i := by
  rw [List.findIdx?_eq_some_iff_getElem]
  exact ⟨hi, decide_eq_true he, fun j hj => by simpa using h j hj⟩
 rw [idxW, this]
set_option maxHeartbeats 4000000 in
theorem index7_any (v : Value) (l : List Wy7) (g : Bool) (x : Int) (w : World) (h : ListIn 2 WayR w w.heap.size v l) :
  Calls Try.prog 51 #[v, .agg #[.bool g, .int .i64 x]] w fun e w' => e = .returned (.int .i64 (idxW l (g, x))) ∧ Below w.heap.size w w' := by
 have H := Lib.hid h
 obtain ⟨A, c, rfl, hcl, hcm⟩ := h.slice
 have hml : l.length ≤ 9223372036854775807 := by unfold maxLen at hcm; omega
 obtain ⟨n, hn⟩ : ∃ n, n = l.length := ⟨_, rfl⟩
 have HN := Lib.hid hn
 have HA := Lib.hid (show ListIn 2 WayR w w.heap.size (.slice A n c) l by rw [hn]; exact H.out)
 rw [← hn] at hml ⊢
 clear hn H hcl hcm h
 have hq0 := heap_alloc_self w (.cells #[.bool g, .int .i64 x] 100)
 have hqb := below_new w (.cells #[.bool g, .int .i64 x] 100)
 go_enter Try.func51, Try.ntmps51
 go_upto_region 1 with fail
 generalize w.alloc (.cells #[.bool g, .int .i64 x] 100) = q at hq0 hqb ⊢
 have QX := Lib.hid hq0
 have QB := Lib.hid hqb
 clear hq0 hqb
 go_wp2_with fail
 go_loopw [8] (fun s8 wr => ∃ i : Nat, i ≤ n ∧ s8 = .int .i64 i ∧ (∀ j (hj : j < i) (hl : j < l.length), l[j] ≠ (g, x)) ∧ wr.heap[w.heap.size]? = some (.cells #[.bool g, .int .i64 x] 100 (0, 0)) ∧ Below w.heap.size w wr) (fun s8 _ => n - (intOf s8).toNat)
 case atStart => exact ⟨0, by omega, by go_num, fun j hj => absurd hj (by omega), QX.out, QB.out⟩
 case round =>
  obtain ⟨i, hi, rfl, hall, hx, hb⟩ := hrel
  have HALL := Lib.hid hall
  have X3 := Lib.hid hx
  have BW := Lib.hid hb
  clear hall hx hb
  by_cases hlt : i < n
  ·have hlt' : (i : Int) < n := by omega
   have hir : i < l.length := by rw [← HN.out]; exact hlt
   obtain ⟨b, off, rfl, hb, hc0, hc1⟩ := ((HA.out.below wayR7 BW.out).more wayR7 BW.out.size).at hir
   obtain ⟨g1, x1, hy⟩ : ∃ g1 x1, l[i] = (g1, x1) := ⟨_, _, rfl⟩
   rw [hy] at hc0 hc1
   have hg0 : wr.cell? ⟨b, off + i * 2, none⟩ = some (.bool g1) := hc0
   have hg1 : wr.cell? ⟨b, off + i * 2 + 1, none⟩ = some (.int .i64 x1) := hc1
   have HY := Lib.hid hy
   clear hc0 hc1 hy hb
   obtain ⟨k0, k1⟩ := cell2_of X3.out
   have BD : Hid (∀ nq, Below w.heap.size w (wr.drewN nq)) := Lib.hid (fun nq => below_drewK BW.out nq)
   have XD : Hid (∀ nq, (wr.drewN nq).heap[w.heap.size]? = some (.cells #[.bool g, .int .i64 x] 100 (0, 0))) := Lib.hid (fun nq => X3.out)
   by_cases he : g = g1 ∧ x = x1
   ·have hcmp : ∀ w' : World, (Op.equalIn 10000 100 (.agg #[.bool g, .int .i64 x]) (.agg #[.bool g1, .int .i64 x1])).run Try.prog w' = .ok true w' := fun w' => by rw [way_eq, he.1, he.2]; simp
    have HR : Hid (idxW l (g, x) = (i : Int)) := Lib.hid (idxW_some hir (by rw [HY.out, he.1, he.2]) fun j hj => HALL.out j hj (by omega))
    clear he
    go_upto_region 4 with fail
    go_quiet (fail)
    have hdb := BD.out nq
    generalize wr.drewN nq = q5 at hdb ⊢
    have B5 := Lib.hid hdb
    clear hdb hcmp k0 k1 hg0 hg1 BD XD
    go_wp2_with fail
    go_ret
    exact ⟨by rw [HR.out]; rfl, B5.out⟩
   ·have hcmp : ∀ w' : World, (Op.equalIn 10000 100 (.agg #[.bool g, .int .i64 x]) (.agg #[.bool g1, .int .i64 x1])).run Try.prog w' = .ok false w' := fun w' => by
     rw [way_eq]
     congr 1
     by_cases h1 : g = g1
     ·have h2 : ¬ x = x1 := fun h2 => he ⟨h1, h2⟩
      simp [h2]
     ·simp [h1]
    have NX : Hid (∀ j (hj : j < i + 1) (hl : j < l.length), l[j] ≠ (g, x)) := Lib.hid (fun j hj hl => by
     rcases Nat.lt_or_ge j i with h | h
     ·exact HALL.out j h hl
     ·obtain rfl : j = i := by omega
      rw [HY.out]; intro h2; injection h2 with h3 h4; exact he ⟨h3.symm, h4.symm⟩)
    clear he
    go_upto_region 4 with fail
    go_quiet (fail)
    have hdb := BD.out nq
    have hdx := XD.out nq
    generalize wr.drewN nq = q5 at hdb hdx ⊢
    have B5 := Lib.hid hdb
    have X5 := Lib.hid hdx
    clear hdb hdx hcmp k0 k1 hg0 hg1 BD XD
    go_wp2_with fail
    go_roundw
    case measure => simp [intOf]; omega
    case rel => exact ⟨i + 1, by omega, by go_num, NX.out, X5.out, B5.out⟩
  ·obtain rfl : i = n := by omega
   have hlt' : ¬ (i : Int) < i := by omega
   have HR : Hid (idxW l (g, x) = -1) := Lib.hid (idxW_none fun j hj => HALL.out j (by rw [HN.out]; exact hj) hj)
   go_wp2_with fail
   go_ret
   exact ⟨by rw [HR.out]; rfl, BW.out⟩

theorem ways_row {W : World} {p : Nat} {c : Array Value} {t : TypeId} {fr : Nat × Nat} (h : W.heap[p]? = some (.cells c t fr)) (off : Nat) (z0 z1 z2 : Wy7)
  (e0 : c[off]? = some (.bool z0.1)) (f0 : c[off + 1]? = some (.int .i64 z0.2)) (e1 : c[off + 2]? = some (.bool z1.1)) (f1 : c[off + 3]? = some (.int .i64 z1.2)) (e2 : c[off + 4]? = some (.bool z2.1)) (f2 : c[off + 5]? = some (.int .i64 z2.2)) :
  ListIn 2 WayR W W.heap.size (.slice (some ⟨p, off, none⟩) 3 3) [z0, z1, z2] := by
 refine ⟨_, 3, rfl, Nat.le_refl _, by unfold maxLen; omega, (fun e => by cases e), fun _ => ⟨p, off, rfl, heap_lt h, fun j hj => ?_⟩⟩
 match j, hj with
 | 0, _ => exact ⟨cell18 h _ _ e0, cell18 h _ _ f0⟩
 | 1, _ => exact ⟨cell18 h _ _ e1, cell18 h _ _ f1⟩
 | 2, _ => exact ⟨cell18 h _ _ e2, cell18 h _ _ f2⟩
def idxO (s : Sec) (a lie : Int) : Int := if lie < 0 then -1 else match outT s a lie with | none => -1 | some t => (t : Int)
theorem outE_idx {s : Sec} {a lie : Int} (h : shapedB s = true) : outE s a lie = (if idxO s a lie < 0 then 2 else 0) ∧ outV s a lie = (if idxO s a lie < 0 then 0 else idxO s a lie) := by
 by_cases h0 : lie < 0
 ·have e : idxO s a lie = -1 := by rw [idxO, if_pos h0]
  have e2 : outE s a lie = 2 := by rw [outE, h, if_pos rfl, if_pos h0]
  rw [outV, e2, e]; exact ⟨rfl, rfl⟩
 ·cases hT : outT s a lie with
  | none =>
   have e : idxO s a lie = -1 := by rw [idxO, if_neg h0, hT]
   have e2 : outE s a lie = 2 := by rw [outE, h, if_pos rfl, if_neg h0, hT]
   rw [outV, e2, e]; exact ⟨rfl, rfl⟩
  | some t =>
   have e : idxO s a lie = t := by rw [idxO, if_neg h0, hT]
   have e2 : outE s a lie = 0 := by rw [outE, h, if_pos rfl, if_neg h0, hT]
   have h3 : ¬ (t : Int) < 0 := by omega
   rw [outV, e2, e, hT, if_neg h3, if_neg h3]; exact ⟨rfl, rfl⟩

theorem idx_1_0 (id lie : Int) (l : List Jn) (hl : l.length = 2) : idxW [(false, 0), (true, 0), (false, 0)] (true, lie) = idxO (id, 0, l) 0 lie := by
 have hr : List.range 2 = [0, 1] := rfl
 rcases (show lie = 0 ∨ (lie < 0) ∨ (0 < lie) from by omega) with rfl | h | h
 ·simp [idxW, idxO, outT, hl, hr, lieS, List.findIdx?_cons]
 ·have h1 : ¬ lie = 0 := by omega
  have h2 : ¬ 0 = lie := by omega
  simp [idxW, idxO, h, h1, h2, List.findIdx?_cons]
 ·have h1 : ¬ lie = 0 := by omega
  have h2 : ¬ 0 = lie := by omega
  have h3 : ¬ -1 = lie := by omega
  have h4 : ¬ lie < 0 := by omega
  simp [idxW, idxO, outT, hl, hr, lieS, h1, h2, h3, h4, List.findIdx?_cons]
theorem idx_1_1 (id lie : Int) (l : List Jn) (hl : l.length = 2) : idxW [(true, 0), (false, 0), (false, 0)] (true, lie) = idxO (id, 0, l) 1 lie := by
 have hr : List.range 2 = [0, 1] := rfl
 rcases (show lie = 0 ∨ (lie < 0) ∨ (0 < lie) from by omega) with rfl | h | h
 ·simp [idxW, idxO, outT, hl, hr, lieS, List.findIdx?_cons]
 ·have h1 : ¬ lie = 0 := by omega
  have h2 : ¬ 0 = lie := by omega
  simp [idxW, idxO, h, h1, h2, List.findIdx?_cons]
 ·have h1 : ¬ lie = 0 := by omega
  have h2 : ¬ 0 = lie := by omega
  have h3 : ¬ -1 = lie := by omega
  have h4 : ¬ lie < 0 := by omega
  simp [idxW, idxO, outT, hl, hr, lieS, h1, h2, h3, h4, List.findIdx?_cons]
theorem idx_1_2 (id lie : Int) (l : List Jn) (hl : l.length = 2) : idxW [(false, 0), (false, 0), (false, 0)] (true, lie) = idxO (id, 0, l) 2 lie := by
 have hr : List.range 2 = [0, 1] := rfl
 rcases (show lie = 0 ∨ (lie < 0) ∨ (0 < lie) from by omega) with rfl | h | h
 ·simp [idxW, idxO, outT, hl, hr, lieS, List.findIdx?_cons]
 ·have h1 : ¬ lie = 0 := by omega
  have h2 : ¬ 0 = lie := by omega
  simp [idxW, idxO, h, h1, h2, List.findIdx?_cons]
 ·have h1 : ¬ lie = 0 := by omega
  have h2 : ¬ 0 = lie := by omega
  have h3 : ¬ -1 = lie := by omega
  have h4 : ¬ lie < 0 := by omega
  simp [idxW, idxO, outT, hl, hr, lieS, h1, h2, h3, h4, List.findIdx?_cons]
theorem idx_2_0 (id pt lie : Int) (l : List Jn) (hl : l.length = 3) (h0 : ¬ pt = 0) : idxW [(false, 0), (true, 1), (true, 2)] (true, lie) = idxO (id, pt, l) 0 lie := by
 have hr : List.range 3 = [0, 1, 2] := rfl
 rcases (show lie = 0 ∨ lie = 1 ∨ lie = 2 ∨ (lie < 0) ∨ (2 < lie) from by omega) with rfl | rfl | rfl | h | h
 ·simp [idxW, idxO, outT, hl, hr, lieS, h0, List.findIdx?_cons]
 ·simp [idxW, idxO, outT, hl, hr, lieS, h0, List.findIdx?_cons]
 ·simp [idxW, idxO, outT, hl, hr, lieS, h0, List.findIdx?_cons]
 ·have h1 : ¬ 0 = lie := by omega
  have h2 : ¬ 1 = lie := by omega
  have h3 : ¬ 2 = lie := by omega
  simp [idxW, idxO, h, h1, h2, h3, List.findIdx?_cons]
 ·have h1 : ¬ 0 = lie := by omega
  have h2 : ¬ 1 = lie := by omega
  have h3 : ¬ 2 = lie := by omega
  have h4 : ¬ lie < 0 := by omega
  have h5 : ¬ -1 = lie := by omega
  simp [idxW, idxO, outT, hl, hr, lieS, h0, h1, h2, h3, h4, h5, List.findIdx?_cons]
theorem idx_2_1 (id pt lie : Int) (l : List Jn) (hl : l.length = 3) (h0 : ¬ pt = 0) : idxW [(true, 1), (false, 0), (false, 0)] (true, lie) = idxO (id, pt, l) 1 lie := by
 have hr : List.range 3 = [0, 1, 2] := rfl
 rcases (show lie = 0 ∨ lie = 1 ∨ lie = 2 ∨ (lie < 0) ∨ (2 < lie) from by omega) with rfl | rfl | rfl | h | h
 ·simp [idxW, idxO, outT, hl, hr, lieS, h0, List.findIdx?_cons]
 ·simp [idxW, idxO, outT, hl, hr, lieS, h0, List.findIdx?_cons]
 ·simp [idxW, idxO, outT, hl, hr, lieS, h0, List.findIdx?_cons]
 ·have h1 : ¬ 0 = lie := by omega
  have h2 : ¬ 1 = lie := by omega
  have h3 : ¬ 2 = lie := by omega
  simp [idxW, idxO, h, h1, h2, h3, List.findIdx?_cons]
 ·have h1 : ¬ 0 = lie := by omega
  have h2 : ¬ 1 = lie := by omega
  have h3 : ¬ 2 = lie := by omega
  have h4 : ¬ lie < 0 := by omega
  have h5 : ¬ -1 = lie := by omega
  simp [idxW, idxO, outT, hl, hr, lieS, h0, h1, h2, h3, h4, h5, List.findIdx?_cons]
theorem idx_2_2 (id pt lie : Int) (l : List Jn) (hl : l.length = 3) (h0 : ¬ pt = 0) : idxW [(true, 2), (false, 0), (false, 0)] (true, lie) = idxO (id, pt, l) 2 lie := by
 have hr : List.range 3 = [0, 1, 2] := rfl
 rcases (show lie = 0 ∨ lie = 1 ∨ lie = 2 ∨ (lie < 0) ∨ (2 < lie) from by omega) with rfl | rfl | rfl | h | h
 ·simp [idxW, idxO, outT, hl, hr, lieS, h0, List.findIdx?_cons]
 ·simp [idxW, idxO, outT, hl, hr, lieS, h0, List.findIdx?_cons]
 ·simp [idxW, idxO, outT, hl, hr, lieS, h0, List.findIdx?_cons]
 ·have h1 : ¬ 0 = lie := by omega
  have h2 : ¬ 1 = lie := by omega
  have h3 : ¬ 2 = lie := by omega
  simp [idxW, idxO, h, h1, h2, h3, List.findIdx?_cons]
 ·have h1 : ¬ 0 = lie := by omega
  have h2 : ¬ 1 = lie := by omega
  have h3 : ¬ 2 = lie := by omega
  have h4 : ¬ lie < 0 := by omega
  have h5 : ¬ -1 = lie := by omega
  simp [idxW, idxO, outT, hl, hr, lieS, h0, h1, h2, h3, h4, h5, List.findIdx?_cons]
theorem idx_other (id pt a lie : Int) (l : List Jn) (ha : ¬ (a = 0 ∨ a = 1 ∨ a = 2)) (hl : l.length ≤ 3) : idxO (id, pt, l) a lie = -1 := by
 rw [idxO]
 split
 ·rfl
 ·rename_i h0
  have : outT (id, pt, l) a lie = none := outT_none fun t ht => by
   have : lieS pt a t = -1 := by
    rw [lieS]
    split
    ·rw [if_neg (by omega)]
    ·rw [if_neg (by omega), if_neg (by omega)]
   show lieS pt a t ≠ lie
   omega
  rw [this]
end Go.Proofs.Ytccbdpeicemnjaa
