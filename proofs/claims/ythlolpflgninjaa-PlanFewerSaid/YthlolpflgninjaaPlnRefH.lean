/-
  The document's own functions of package plan: Check, Point, Signal, Route, Stands.
  Conditions: of Route: lists of at most a thousand.
-/
import Derived.Test.YthlolpflgninjaaPlnRefG
set_option linter.unusedVariables false
set_option linter.unusedSimpArgs false
set_option maxRecDepth 100000
namespace Go.Proofs.Ythlolpflgninjaa
open Go.RowKit

theorem results_rowS_tmp {P : Program} {fn : Func} {p u : Tmp} {ty : TypeId} (h : fn.results = #[.cell p ty, .tmp u]) (tmps : Array Value) (w : World) (g : Nat) {c : Array Value} {t : TypeId} {fr : Nat × Nat} (hp : tmps.getD p undef = .pointer (some ⟨g, 0, none⟩)) (hb : w.heap[g]? = some (.cells c t fr))
    {fs : Array Field} (hu : P.underlying ty = some (.struct fs)) (hi : (P.info? ty).map (·.size) = some c.size) (x : Value) (hx : tmps.getD u undef = x) : (results fn tmps).run P w = .ok (.tuple #[.agg c, x]) w := by
  have hp' : tmps[p]?.getD undef = .pointer (some ⟨g, 0, none⟩) := by simpa using hp
  rw [results_cell_tmp h, hp, hx]
  simp [asAddr, run_loadVar_row w g t ty c fr _ hb hu rfl (by simpa using hi)]
noncomputable def chk8 (p : Pl) : Int := if planMay p then 0 else 8
noncomputable def elE {α : Type} (p : Pl) (k : α → Int) (l : List α) (id : Int) : Int := if planMay p then (if at1 k l id < 0 then 6 else 0) else 8
noncomputable def elV {α : Type} (p : Pl) (k : α → Int) (l : List α) (id : Int) (z : α) : α := if elE p k l id = 0 then l.getD (at1 k l id).toNat z else z
abbrev kPt : Jn → Int := fun x => x.1
abbrev kSg : Sg → Int := fun x => x.1
abbrev kRt : Rt → Int := fun x => x.id
def zRt : Rt := ⟨0, 0, 0, [], [], [], 0⟩
theorem elE_bad {α : Type} {p : Pl} {k : α → Int} {l : List α} {id : Int} {z : α} (h : planMay p = false) : elE p k l id = 8 ∧ elV p k l id z = z := by
  have e : elE p k l id = 8 := by rw [elE, h]; rfl
  exact ⟨e, by rw [elV, e]; rfl⟩
theorem elE_none {α : Type} {p : Pl} {k : α → Int} {l : List α} {id : Int} {z : α} (h : planMay p = true) (h0 : at1 k l id < 0) : elE p k l id = 6 ∧ elV p k l id z = z := by
  have e : elE p k l id = 6 := by rw [elE, h, if_pos rfl, if_pos h0]
  exact ⟨e, by rw [elV, e]; rfl⟩
theorem elE_some {α : Type} {p : Pl} {k : α → Int} {l : List α} {id : Int} {z : α} (h : planMay p = true) {i : Nat} (hi : i < l.length) (h0 : at1 k l id = (i : Int)) : elE p k l id = 0 ∧ elV p k l id z = l[i] := by
  have e : elE p k l id = 0 := by rw [elE, h, if_pos rfl, if_neg (by omega)]
  exact ⟨e, by rw [elV, e, if_pos rfl, h0]; simp [List.getD, List.getElem?_eq_getElem hi]⟩

theorem rcheck8_any (v : Value) (p : Pl) (w : World) (h : PlanV w w.heap.size v p) :
    Calls Try.prog 21 #[v] w fun e w' => e = .returned (.int .i64 (chk8 p)) ∧ Below w.heap.size w w' := by
  obtain ⟨y2, y3, y4, y5, rfl, hin⟩ := h
  have HIN0 := Lib.hid hin
  obtain ⟨A2, c2, rfl, -, -⟩ := hin.secs.slice
  obtain ⟨A3, c3, rfl, -, -⟩ := hin.pts.slice
  obtain ⟨A4, c4, rfl, -, -⟩ := hin.sigs.slice
  obtain ⟨A5, c5, rfl, -, -⟩ := hin.routes.slice
  obtain ⟨n2, hn2⟩ : ∃ n, n = p.secs.length := ⟨_, rfl⟩
  obtain ⟨n3, hn3⟩ : ∃ n, n = p.pts.length := ⟨_, rfl⟩
  obtain ⟨n4, hn4⟩ : ∃ n, n = p.sigs.length := ⟨_, rfl⟩
  obtain ⟨n5, hn5⟩ : ∃ n, n = p.routes.length := ⟨_, rfl⟩
  have HIN : Hid (PlIn w w.heap.size (.slice A2 n2 c2) (.slice A3 n3 c3) (.slice A4 n4 c4) (.slice A5 n5 c5) p) := Lib.hid (by rw [hn2, hn3, hn4, hn5]; exact HIN0.out)
  have HN : Hid (n3 = p.pts.length ∧ n4 = p.sigs.length ∧ n5 = p.routes.length) := Lib.hid ⟨hn3, hn4, hn5⟩
  rw [← hn2, ← hn3, ← hn4, ← hn5]
  clear hn2 hn3 hn4 hn5 HIN0 hin
  have hq0 := heap_alloc_self w (.cells #[.int .i64 p.ver, .int .i64 p.par, .slice A2 n2 c2, .slice A3 n3 c3, .slice A4 n4 c4, .slice A5 n5 c5] 30)
  have hqb := below_new w (.cells #[.int .i64 p.ver, .int .i64 p.par, .slice A2 n2 c2, .slice A3 n3 c3, .slice A4 n4 c4, .slice A5 n5 c5] 30)
  go_enter Try.func21, Try.ntmps21
  go_upto_region 1 with fail
  generalize w.alloc (.cells #[.int .i64 p.ver, .int .i64 p.par, .slice A2 n2 c2, .slice A3 n3 c3, .slice A4 n4 c4, .slice A5 n5 c5] 30) = q at hq0 hqb ⊢
  have QB := Lib.hid hqb
  obtain ⟨k0, k1, k2, k3, k4, k5⟩ := cell6_of hq0
  clear hq0 hqb
  go_wp2_with fail
  refine (rmay8_any _ p q ⟨_, _, _, _, rfl, (HIN.out.below QB.out).more QB.out.size⟩).mono ?_
  rintro e w1 ⟨rfl, b1⟩
  have B1 := Lib.hid (QB.out.trans (b1.mono QB.out.size))
  clear b1
  cases hm : planMay p with
  | false =>
    have HC : Hid (chk8 p = 8) := Lib.hid (by rw [chk8, hm]; rfl)
    clear hm
    go_wp2_with fail
    go_ret
    exact ⟨by rw [HC.out]; rfl, B1.out⟩
  | true =>
    have HC : Hid (chk8 p = 0) := Lib.hid (by rw [chk8, hm]; rfl)
    clear hm
    go_wp2_with fail
    go_ret
    exact ⟨by rw [HC.out]; rfl, B1.out⟩

theorem infoPoint2 : (Try.prog.info? 43).map (·.size) = some 2 := by kernel_rfl
theorem infoSig3 : (Try.prog.info? 49).map (·.size) = some 3 := by kernel_rfl
set_option maxHeartbeats 4000000 in
theorem rpoint_any (v : Value) (p : Pl) (id : Int) (w : World) (h : PlanV w w.heap.size v p) :
    Calls Try.prog 16 #[v, .int .i64 id] w fun e w' => e = .returned (.tuple #[.agg #[.int .i64 (elV p kPt p.pts id (0, 0)).1, .int .i64 (elV p kPt p.pts id (0, 0)).2], .int .i64 (elE p kPt p.pts id)]) ∧ Below w.heap.size w w' := by
  obtain ⟨y2, y3, y4, y5, rfl, hin⟩ := h
  have HIN0 := Lib.hid hin
  obtain ⟨A2, c2, rfl, -, -⟩ := hin.secs.slice
  obtain ⟨A3, c3, rfl, -, -⟩ := hin.pts.slice
  obtain ⟨A4, c4, rfl, -, -⟩ := hin.sigs.slice
  obtain ⟨A5, c5, rfl, -, -⟩ := hin.routes.slice
  obtain ⟨n2, hn2⟩ : ∃ n, n = p.secs.length := ⟨_, rfl⟩
  obtain ⟨n3, hn3⟩ : ∃ n, n = p.pts.length := ⟨_, rfl⟩
  obtain ⟨n4, hn4⟩ : ∃ n, n = p.sigs.length := ⟨_, rfl⟩
  obtain ⟨n5, hn5⟩ : ∃ n, n = p.routes.length := ⟨_, rfl⟩
  have HIN : Hid (PlIn w w.heap.size (.slice A2 n2 c2) (.slice A3 n3 c3) (.slice A4 n4 c4) (.slice A5 n5 c5) p) := Lib.hid (by rw [hn2, hn3, hn4, hn5]; exact HIN0.out)
  have HN : Hid (n3 = p.pts.length ∧ n4 = p.sigs.length ∧ n5 = p.routes.length) := Lib.hid ⟨hn3, hn4, hn5⟩
  rw [← hn2, ← hn3, ← hn4, ← hn5]
  clear hn2 hn3 hn4 hn5 HIN0 hin
  have hq := two_boxes w (.cells #[.int .i64 p.ver, .int .i64 p.par, .slice A2 n2 c2, .slice A3 n3 c3, .slice A4 n4 c4, .slice A5 n5 c5] 30) (.cells #[.int .i64 0, .int .i64 0] 43)
  go_enter Try.func16, Try.ntmps16
  go_upto_region 1 with fail
  generalize (w.alloc (.cells #[.int .i64 p.ver, .int .i64 p.par, .slice A2 n2 c2, .slice A3 n3 c3, .slice A4 n4 c4, .slice A5 n5 c5] 30)).alloc (.cells #[.int .i64 0, .int .i64 0] 43) = q at hq ⊢
  obtain ⟨q0, q1, qb⟩ := hq
  have Q1 := Lib.hid q0
  have Q2 := Lib.hid q1
  have QB := Lib.hid qb
  obtain ⟨k0, k1, k2, k3, k4, k5⟩ := cell6_of q0
  clear q0 q1 qb
  go_wp2_with fail
  refine (rmay8_any _ p q ⟨_, _, _, _, rfl, (HIN.out.below QB.out).more QB.out.size⟩).mono ?_
  rintro e w1 ⟨rfl, b1⟩
  have B1 := Lib.hid (QB.out.trans (b1.mono QB.out.size))
  have X1 := Lib.hid ((b1.block _ (heap_lt Q1.out)).trans Q1.out)
  have X2 := Lib.hid ((b1.block _ (heap_lt Q2.out)).trans Q2.out)
  clear b1 k0 k1 k2 k3 k4 k5
  cases hm : planMay p with
  | false =>
    have HE := Lib.hid (elE_bad (k := kPt) (l := p.pts) (id := id) (z := (0, 0)) hm)
    have BZ := B1
    clear hm
    go_wp2_with ((with_reducible show wpList _ _ _ (⟨none, _, _, _, _, _⟩ :: _) _ _); refine wpList_store_rowS rfl _ (.tmp 4) (.tmp 10) rfl (w.heap.size + 1) rfl (c' := #[.int .i64 0, .int .i64 0]) rfl X2.out infoPoint2 rfl (by simp [Value.oneCell']) ?_)
    exact bodyPost_ret (results_rowS_tmp (c := #[.int .i64 0, .int .i64 0]) rfl _ _ (w.heap.size + 1) rfl (setRow_heap _ _ _ _ _ _ X2.out) Try.underlying43 infoPoint2 (.int .i64 8) rfl) rfl ⟨by rw [HE.out.1, HE.out.2], below_setRow BZ.out (Nat.le_succ _) _⟩
  | true =>
    have HM := Lib.hid hm
    clear hm
    obtain ⟨k0, k1, k2, k3, k4, k5⟩ := cell6_of X1.out
    have HL1 := Lib.hid ((HIN.out.below B1.out).more B1.out.size).pts
    go_upto_region 4 with ((with_reducible show Calls _ _ _ _ _); refine (rpointat_any _ p.pts id _ HL1.out).mono ?_; rintro e w' ⟨rfl, hw'⟩; rw [hw']; clear hw' w')
    obtain ⟨kk, hkk⟩ : ∃ kk, kk = at1 kPt p.pts id := ⟨_, rfl⟩
    have HKK := Lib.hid hkk
    have ATC := Lib.hid (at1_cases kPt p.pts id)
    have hkk' : at1 (fun x => x.1) p.pts id = kk := hkk.symm
    rw [hkk']
    clear hkk hkk'
    have BZ := B1
    by_cases h0 : kk < 0
    · have d0 : decide (kk < 0) = true := decide_eq_true h0
      have HE := Lib.hid (elE_none (k := kPt) (l := p.pts) (id := id) (z := (0, 0)) HM.out (by rw [← HKK.out]; exact h0))
      clear h0
      go_wp2_with ((with_reducible show wpList _ _ _ (⟨none, _, _, _, _, _⟩ :: _) _ _); refine wpList_store_rowS rfl _ (.tmp 4) (.tmp 17) rfl (w.heap.size + 1) rfl (c' := #[.int .i64 0, .int .i64 0]) rfl X2.out infoPoint2 rfl (by simp [Value.oneCell']) ?_)
      exact bodyPost_ret (results_rowS_tmp (c := #[.int .i64 0, .int .i64 0]) rfl _ _ (w.heap.size + 1) rfl (setRow_heap _ _ _ _ _ _ X2.out) Try.underlying43 infoPoint2 (.int .i64 6) rfl) rfl ⟨by rw [HE.out.1, HE.out.2], below_setRow BZ.out (Nat.le_succ _) _⟩
    · obtain ⟨i, hir, hi1⟩ : ∃ i, ∃ h : i < p.pts.length, kk = (i : Int) := by
        rcases ATC.out with ⟨h, _⟩ | ⟨i, hi, h, _⟩
        · have := HKK.out; omega
        · exact ⟨i, hi, HKK.out.trans h⟩
      subst hi1
      have d0 : decide ((i : Int) < 0) = false := decide_eq_false h0
      have HE := Lib.hid (elE_some (k := kPt) (z := (0, 0)) HM.out hir HKK.out.symm)
      have hin : (i : Int) < n3 := by have := HN.out; omega
      clear h0
      obtain ⟨b, off, rfl, hb, hc0, hc1⟩ := HL1.out.at hir
      obtain ⟨x, hx⟩ : ∃ x, x = p.pts[i] := ⟨_, rfl⟩
      have HX := Lib.hid hx
      rw [← hx] at hc0 hc1
      have hg0 : w1.cell? ⟨b, off + i * 2, none⟩ = some (.int .i64 x.1) := hc0
      have hg1 : w1.cell? ⟨b, off + i * 2 + 1, none⟩ = some (.int .i64 x.2) := hc1
      clear hc0 hc1 hx hb
      go_wp2_with ((with_reducible show wpList _ _ _ (⟨none, _, _, _, _, _⟩ :: _) _ _); refine wpList_store_rowS rfl _ (.tmp 4) (.tmp 22) rfl (w.heap.size + 1) rfl (c' := #[.int .i64 x.1, .int .i64 x.2]) rfl X2.out infoPoint2 rfl (by simp [Value.oneCell']) ?_)
      exact bodyPost_ret (results_rowS_tmp (c := #[.int .i64 x.1, .int .i64 x.2]) rfl _ _ (w.heap.size + 1) rfl (setRow_heap _ _ _ _ _ _ X2.out) Try.underlying43 infoPoint2 (.int .i64 0) rfl) rfl ⟨by rw [HE.out.1, HE.out.2, ← HX.out], below_setRow BZ.out (Nat.le_succ _) _⟩

set_option maxHeartbeats 4000000 in
theorem rsignal_any (v : Value) (p : Pl) (id : Int) (w : World) (h : PlanV w w.heap.size v p) :
    Calls Try.prog 18 #[v, .int .i64 id] w fun e w' => e = .returned (.tuple #[.agg #[.int .i64 (elV p kSg p.sigs id (0, 0, 0)).1, .int .i64 (elV p kSg p.sigs id (0, 0, 0)).2.1, .int .i64 (elV p kSg p.sigs id (0, 0, 0)).2.2], .int .i64 (elE p kSg p.sigs id)]) ∧ Below w.heap.size w w' := by
  obtain ⟨y2, y3, y4, y5, rfl, hin⟩ := h
  have HIN0 := Lib.hid hin
  obtain ⟨A2, c2, rfl, -, -⟩ := hin.secs.slice
  obtain ⟨A3, c3, rfl, -, -⟩ := hin.pts.slice
  obtain ⟨A4, c4, rfl, -, -⟩ := hin.sigs.slice
  obtain ⟨A5, c5, rfl, -, -⟩ := hin.routes.slice
  obtain ⟨n2, hn2⟩ : ∃ n, n = p.secs.length := ⟨_, rfl⟩
  obtain ⟨n3, hn3⟩ : ∃ n, n = p.pts.length := ⟨_, rfl⟩
  obtain ⟨n4, hn4⟩ : ∃ n, n = p.sigs.length := ⟨_, rfl⟩
  obtain ⟨n5, hn5⟩ : ∃ n, n = p.routes.length := ⟨_, rfl⟩
  have HIN : Hid (PlIn w w.heap.size (.slice A2 n2 c2) (.slice A3 n3 c3) (.slice A4 n4 c4) (.slice A5 n5 c5) p) := Lib.hid (by rw [hn2, hn3, hn4, hn5]; exact HIN0.out)
  have HN : Hid (n3 = p.pts.length ∧ n4 = p.sigs.length ∧ n5 = p.routes.length) := Lib.hid ⟨hn3, hn4, hn5⟩
  rw [← hn2, ← hn3, ← hn4, ← hn5]
  clear hn2 hn3 hn4 hn5 HIN0 hin
  have hq := two_boxes w (.cells #[.int .i64 p.ver, .int .i64 p.par, .slice A2 n2 c2, .slice A3 n3 c3, .slice A4 n4 c4, .slice A5 n5 c5] 30) (.cells #[.int .i64 0, .int .i64 0, .int .i64 0] 49)
  go_enter Try.func18, Try.ntmps18
  go_upto_region 1 with fail
  generalize (w.alloc (.cells #[.int .i64 p.ver, .int .i64 p.par, .slice A2 n2 c2, .slice A3 n3 c3, .slice A4 n4 c4, .slice A5 n5 c5] 30)).alloc (.cells #[.int .i64 0, .int .i64 0, .int .i64 0] 49) = q at hq ⊢
  obtain ⟨q0, q1, qb⟩ := hq
  have Q1 := Lib.hid q0
  have Q2 := Lib.hid q1
  have QB := Lib.hid qb
  obtain ⟨k0, k1, k2, k3, k4, k5⟩ := cell6_of q0
  clear q0 q1 qb
  go_wp2_with fail
  refine (rmay8_any _ p q ⟨_, _, _, _, rfl, (HIN.out.below QB.out).more QB.out.size⟩).mono ?_
  rintro e w1 ⟨rfl, b1⟩
  have B1 := Lib.hid (QB.out.trans (b1.mono QB.out.size))
  have X1 := Lib.hid ((b1.block _ (heap_lt Q1.out)).trans Q1.out)
  have X2 := Lib.hid ((b1.block _ (heap_lt Q2.out)).trans Q2.out)
  clear b1 k0 k1 k2 k3 k4 k5
  cases hm : planMay p with
  | false =>
    have HE := Lib.hid (elE_bad (k := kSg) (l := p.sigs) (id := id) (z := (0, 0, 0)) hm)
    have BZ := B1
    clear hm
    go_wp2_with ((with_reducible show wpList _ _ _ (⟨none, _, _, _, _, _⟩ :: _) _ _); refine wpList_store_rowS rfl _ (.tmp 4) (.tmp 10) rfl (w.heap.size + 1) rfl (c' := #[.int .i64 0, .int .i64 0, .int .i64 0]) rfl X2.out infoSig3 rfl (by simp [Value.oneCell']) ?_)
    exact bodyPost_ret (results_rowS_tmp (c := #[.int .i64 0, .int .i64 0, .int .i64 0]) rfl _ _ (w.heap.size + 1) rfl (setRow_heap _ _ _ _ _ _ X2.out) Try.underlying49 infoSig3 (.int .i64 8) rfl) rfl ⟨by rw [HE.out.1, HE.out.2], below_setRow BZ.out (Nat.le_succ _) _⟩
  | true =>
    have HM := Lib.hid hm
    clear hm
    obtain ⟨k0, k1, k2, k3, k4, k5⟩ := cell6_of X1.out
    have HL1 := Lib.hid ((HIN.out.below B1.out).more B1.out.size).sigs
    go_upto_region 4 with ((with_reducible show Calls _ _ _ _ _); refine (rsignalat_any _ p.sigs id _ HL1.out).mono ?_; rintro e w' ⟨rfl, hw'⟩; rw [hw']; clear hw' w')
    obtain ⟨kk, hkk⟩ : ∃ kk, kk = at1 kSg p.sigs id := ⟨_, rfl⟩
    have HKK := Lib.hid hkk
    have ATC := Lib.hid (at1_cases kSg p.sigs id)
    have hkk' : at1 (fun x => x.1) p.sigs id = kk := hkk.symm
    rw [hkk']
    clear hkk hkk'
    have BZ := B1
    by_cases h0 : kk < 0
    · have d0 : decide (kk < 0) = true := decide_eq_true h0
      have HE := Lib.hid (elE_none (k := kSg) (l := p.sigs) (id := id) (z := (0, 0, 0)) HM.out (by rw [← HKK.out]; exact h0))
      clear h0
      go_wp2_with ((with_reducible show wpList _ _ _ (⟨none, _, _, _, _, _⟩ :: _) _ _); refine wpList_store_rowS rfl _ (.tmp 4) (.tmp 17) rfl (w.heap.size + 1) rfl (c' := #[.int .i64 0, .int .i64 0, .int .i64 0]) rfl X2.out infoSig3 rfl (by simp [Value.oneCell']) ?_)
      exact bodyPost_ret (results_rowS_tmp (c := #[.int .i64 0, .int .i64 0, .int .i64 0]) rfl _ _ (w.heap.size + 1) rfl (setRow_heap _ _ _ _ _ _ X2.out) Try.underlying49 infoSig3 (.int .i64 6) rfl) rfl ⟨by rw [HE.out.1, HE.out.2], below_setRow BZ.out (Nat.le_succ _) _⟩
    · obtain ⟨i, hir, hi1⟩ : ∃ i, ∃ h : i < p.sigs.length, kk = (i : Int) := by
        rcases ATC.out with ⟨h, _⟩ | ⟨i, hi, h, _⟩
        · have := HKK.out; omega
        · exact ⟨i, hi, HKK.out.trans h⟩
      subst hi1
      have d0 : decide ((i : Int) < 0) = false := decide_eq_false h0
      have HE := Lib.hid (elE_some (k := kSg) (z := (0, 0, 0)) HM.out hir HKK.out.symm)
      have hin : (i : Int) < n4 := by have := HN.out; omega
      clear h0
      obtain ⟨b, off, rfl, hb, hc0, hc1, hc2⟩ := HL1.out.at hir
      obtain ⟨x, hx⟩ : ∃ x, x = p.sigs[i] := ⟨_, rfl⟩
      have HX := Lib.hid hx
      rw [← hx] at hc0 hc1 hc2
      have hg0 : w1.cell? ⟨b, off + i * 3, none⟩ = some (.int .i64 x.1) := hc0
      have hg1 : w1.cell? ⟨b, off + i * 3 + 1, none⟩ = some (.int .i64 x.2.1) := hc1
      have hg2 : w1.cell? ⟨b, off + i * 3 + 2, none⟩ = some (.int .i64 x.2.2) := hc2
      clear hc0 hc1 hc2 hx hb
      go_wp2_with ((with_reducible show wpList _ _ _ (⟨none, _, _, _, _, _⟩ :: _) _ _); refine wpList_store_rowS rfl _ (.tmp 4) (.tmp 22) rfl (w.heap.size + 1) rfl (c' := #[.int .i64 x.1, .int .i64 x.2.1, .int .i64 x.2.2]) rfl X2.out infoSig3 rfl (by simp [Value.oneCell']) ?_)
      exact bodyPost_ret (results_rowS_tmp (c := #[.int .i64 x.1, .int .i64 x.2.1, .int .i64 x.2.2]) rfl _ _ (w.heap.size + 1) rfl (setRow_heap _ _ _ _ _ _ X2.out) Try.underlying49 infoSig3 (.int .i64 0) rfl) rfl ⟨by rw [HE.out.1, HE.out.2, ← HX.out], below_setRow BZ.out (Nat.le_succ _) _⟩

set_option maxHeartbeats 4000000 in
theorem rroute8_any (v : Value) (p : Pl) (id : Int) (w : World) (h : PlanV w w.heap.size v p) (hl : ∀ j (h : j < p.routes.length), p.routes[j].path.length ≤ 1000 ∧ p.routes[j].over.length ≤ 1000 ∧ p.routes[j].flanks.length ≤ 1000) :
    Calls Try.prog 19 #[v, .int .i64 id] w fun e w' => ∃ u3 u4 u5, e = .returned (.tuple #[.agg #[.int .i64 (elV p kRt p.routes id zRt).id, .int .i64 (elV p kRt p.routes id zRt).entry, .int .i64 (elV p kRt p.routes id zRt).exit, u3, u4, u5, .int .i64 (elV p kRt p.routes id zRt).timer], .int .i64 (elE p kRt p.routes id)]) ∧ RtOwn w' w.heap.size u3 u4 u5 (elV p kRt p.routes id zRt) ∧ Below w.heap.size w w' := by
  obtain ⟨y2, y3, y4, y5, rfl, hin⟩ := h
  have HIN0 := Lib.hid hin
  obtain ⟨A2, c2, rfl, -, -⟩ := hin.secs.slice
  obtain ⟨A3, c3, rfl, -, -⟩ := hin.pts.slice
  obtain ⟨A4, c4, rfl, -, -⟩ := hin.sigs.slice
  obtain ⟨A5, c5, rfl, -, -⟩ := hin.routes.slice
  obtain ⟨n2, hn2⟩ : ∃ n, n = p.secs.length := ⟨_, rfl⟩
  obtain ⟨n3, hn3⟩ : ∃ n, n = p.pts.length := ⟨_, rfl⟩
  obtain ⟨n4, hn4⟩ : ∃ n, n = p.sigs.length := ⟨_, rfl⟩
  obtain ⟨n5, hn5⟩ : ∃ n, n = p.routes.length := ⟨_, rfl⟩
  have HIN : Hid (PlIn w w.heap.size (.slice A2 n2 c2) (.slice A3 n3 c3) (.slice A4 n4 c4) (.slice A5 n5 c5) p) := Lib.hid (by rw [hn2, hn3, hn4, hn5]; exact HIN0.out)
  have HN : Hid (n3 = p.pts.length ∧ n4 = p.sigs.length ∧ n5 = p.routes.length) := Lib.hid ⟨hn3, hn4, hn5⟩
  rw [← hn2, ← hn3, ← hn4, ← hn5]
  clear hn2 hn3 hn4 hn5 HIN0 hin
  have HL := Lib.hid hl
  clear hl
  have hq := two_boxes w (.cells #[.int .i64 p.ver, .int .i64 p.par, .slice A2 n2 c2, .slice A3 n3 c3, .slice A4 n4 c4, .slice A5 n5 c5] 30) (.cells #[.int .i64 0, .int .i64 0, .int .i64 0, .slice none 0 0, .slice none 0 0, .slice none 0 0, .int .i64 0] 35)
  go_enter Try.func19, Try.ntmps19
  go_upto_region 1 with fail
  generalize (w.alloc (.cells #[.int .i64 p.ver, .int .i64 p.par, .slice A2 n2 c2, .slice A3 n3 c3, .slice A4 n4 c4, .slice A5 n5 c5] 30)).alloc (.cells #[.int .i64 0, .int .i64 0, .int .i64 0, .slice none 0 0, .slice none 0 0, .slice none 0 0, .int .i64 0] 35) = q at hq ⊢
  obtain ⟨q0, q1, qb⟩ := hq
  have Q1 := Lib.hid q0
  have Q2 := Lib.hid q1
  have QB := Lib.hid qb
  obtain ⟨k0, k1, k2, k3, k4, k5⟩ := cell6_of q0
  clear q0 q1 qb
  go_wp2_with fail
  refine (rmay8_any _ p q ⟨_, _, _, _, rfl, (HIN.out.below QB.out).more QB.out.size⟩).mono ?_
  rintro e w1 ⟨rfl, b1⟩
  have B1 := Lib.hid (QB.out.trans (b1.mono QB.out.size))
  have X1 := Lib.hid ((b1.block _ (heap_lt Q1.out)).trans Q1.out)
  have X2 := Lib.hid ((b1.block _ (heap_lt Q2.out)).trans Q2.out)
  clear b1 k0 k1 k2 k3 k4 k5
  cases hm : planMay p with
  | false =>
    have HE := Lib.hid (elE_bad (k := kRt) (l := p.routes) (id := id) (z := zRt) hm)
    have BZ := B1
    clear hm
    go_wp2_with ((with_reducible show wpList _ _ _ (⟨none, _, _, _, _, _⟩ :: _) _ _); refine wpList_store_rowS rfl _ (.tmp 4) (.tmp 10) rfl (w.heap.size + 1) rfl (c' := #[.int .i64 0, .int .i64 0, .int .i64 0, .slice none 0 0, .slice none 0 0, .slice none 0 0, .int .i64 0]) rfl X2.out infoRoute7 rfl (by simp [Value.oneCell']) ?_)
    exact bodyPost_ret (results_rowS_tmp (c := #[.int .i64 0, .int .i64 0, .int .i64 0, .slice none 0 0, .slice none 0 0, .slice none 0 0, .int .i64 0]) rfl _ _ (w.heap.size + 1) rfl (setRow_heap _ _ _ _ _ _ X2.out) Try.underlying35 infoRoute7 (.int .i64 8) rfl) rfl ⟨.slice none 0 0, .slice none 0 0, .slice none 0 0, by rw [HE.out.1, HE.out.2]; rfl, by rw [HE.out.2]; exact ⟨ListOwn.nil_, ListOwn.nil_, ListOwn.nil_⟩, below_setRow BZ.out (Nat.le_succ _) _⟩
  | true =>
    have HM := Lib.hid hm
    clear hm
    obtain ⟨k0, k1, k2, k3, k4, k5⟩ := cell6_of X1.out
    have HL1 := Lib.hid ((HIN.out.below B1.out).more B1.out.size).routes
    go_upto_region 4 with ((with_reducible show Calls _ _ _ _ _); refine (rrouteat_any _ p.routes id _ HL1.out).mono ?_; rintro e w' ⟨rfl, hw'⟩; rw [hw']; clear hw' w')
    obtain ⟨kk, hkk⟩ : ∃ kk, kk = at1 kRt p.routes id := ⟨_, rfl⟩
    have HKK := Lib.hid hkk
    have ATC := Lib.hid (at1_cases kRt p.routes id)
    have hkk' : at1 (fun x => x.id) p.routes id = kk := hkk.symm
    rw [hkk']
    clear hkk hkk'
    have BZ := B1
    by_cases h0 : kk < 0
    · have d0 : decide (kk < 0) = true := decide_eq_true h0
      have HE := Lib.hid (elE_none (k := kRt) (l := p.routes) (id := id) (z := zRt) HM.out (by rw [← HKK.out]; exact h0))
      clear h0
      go_wp2_with ((with_reducible show wpList _ _ _ (⟨none, _, _, _, _, _⟩ :: _) _ _); refine wpList_store_rowS rfl _ (.tmp 4) (.tmp 17) rfl (w.heap.size + 1) rfl (c' := #[.int .i64 0, .int .i64 0, .int .i64 0, .slice none 0 0, .slice none 0 0, .slice none 0 0, .int .i64 0]) rfl X2.out infoRoute7 rfl (by simp [Value.oneCell']) ?_)
      exact bodyPost_ret (results_rowS_tmp (c := #[.int .i64 0, .int .i64 0, .int .i64 0, .slice none 0 0, .slice none 0 0, .slice none 0 0, .int .i64 0]) rfl _ _ (w.heap.size + 1) rfl (setRow_heap _ _ _ _ _ _ X2.out) Try.underlying35 infoRoute7 (.int .i64 6) rfl) rfl ⟨.slice none 0 0, .slice none 0 0, .slice none 0 0, by rw [HE.out.1, HE.out.2]; rfl, by rw [HE.out.2]; exact ⟨ListOwn.nil_, ListOwn.nil_, ListOwn.nil_⟩, below_setRow BZ.out (Nat.le_succ _) _⟩
    · obtain ⟨i, hir, hi1⟩ : ∃ i, ∃ h : i < p.routes.length, kk = (i : Int) := by
        rcases ATC.out with ⟨h, _⟩ | ⟨i, hi, h, _⟩
        · have := HKK.out; omega
        · exact ⟨i, hi, HKK.out.trans h⟩
      subst hi1
      have d0 : decide ((i : Int) < 0) = false := decide_eq_false h0
      have HE := Lib.hid (elE_some (k := kRt) (z := zRt) HM.out hir HKK.out.symm)
      have hin : (i : Int) < n5 := by have := HN.out; omega
      clear h0
      obtain ⟨b, off, rfl, hb, hc0, hc1, hc2, hc6, u3, u4, u5, hc3, hc4, hc5, hr⟩ := HL1.out.at hir
      obtain ⟨R, hR⟩ : ∃ R, R = p.routes[i] := ⟨_, rfl⟩
      have HR := Lib.hid hR
      have HLR := Lib.hid (HL.out i hir)
      rw [← hR] at hc0 hc1 hc2 hc6 hr
      obtain ⟨C3, e3, rfl, -, -⟩ := hr.path.slice
      obtain ⟨C4, e4, rfl, -, -⟩ := hr.over.slice
      obtain ⟨C5, e5, rfl, -, -⟩ := hr.flanks.slice
      have HRV : Hid (RouteV w1 w1.heap.size (.agg #[.int .i64 R.id, .int .i64 R.entry, .int .i64 R.exit, .slice C3 R.path.length e3, .slice C4 R.over.length e4, .slice C5 R.flanks.length e5, .int .i64 R.timer]) R) := Lib.hid ⟨_, _, _, rfl, hr⟩
      have hg0 : w1.cell? ⟨b, off + i * 7, none⟩ = some (.int .i64 R.id) := hc0
      have hg1 : w1.cell? ⟨b, off + i * 7 + 1, none⟩ = some (.int .i64 R.entry) := hc1
      have hg2 : w1.cell? ⟨b, off + i * 7 + 2, none⟩ = some (.int .i64 R.exit) := hc2
      have hg3 : w1.cell? ⟨b, off + i * 7 + 3, none⟩ = some (.slice C3 R.path.length e3) := hc3
      have hg4 : w1.cell? ⟨b, off + i * 7 + 4, none⟩ = some (.slice C4 R.over.length e4) := hc4
      have hg5 : w1.cell? ⟨b, off + i * 7 + 5, none⟩ = some (.slice C5 R.flanks.length e5) := hc5
      have hg6 : w1.cell? ⟨b, off + i * 7 + 6, none⟩ = some (.int .i64 R.timer) := hc6
      have LEN : Hid (w.heap.size + 2 ≤ w1.heap.size) := Lib.hid (by have := heap_lt X2.out; omega)
      clear hc0 hc1 hc2 hc3 hc4 hc5 hc6 hr hR hb
      go_wp2_with fail
      refine (rtwinroute_any _ R w1 HRV.out (by have := HLR.out; rw [← HR.out] at this; exact this.1) (by have := HLR.out; rw [← HR.out] at this; exact this.2.1) (by have := HLR.out; rw [← HR.out] at this; exact this.2.2)).mono ?_
      rintro e w2 ⟨u3, u4, u5, rfl, hro, b2⟩
      obtain ⟨D3, f3, rfl⟩ := hro.path.slice
      obtain ⟨D4, f4, rfl⟩ := hro.over.slice
      obtain ⟨D5, f5, rfl⟩ := hro.flanks.slice
      have RO := Lib.hid hro
      have B2 := Lib.hid (B1.out.trans (b2.mono B1.out.size))
      have Y2 := Lib.hid ((b2.block _ (heap_lt X2.out)).trans X2.out)
      clear b2 hro hg0 hg1 hg2 hg3 hg4 hg5 hg6 k0 k1 k2 k3 k4 k5
      go_wp2_with ((with_reducible show wpList _ _ _ (⟨none, _, _, _, _, _⟩ :: _) _ _); refine wpList_store_rowS rfl _ (.tmp 4) (.tmp 23) rfl (w.heap.size + 1) rfl (c' := #[.int .i64 R.id, .int .i64 R.entry, .int .i64 R.exit, .slice D3 R.path.length f3, .slice D4 R.over.length f4, .slice D5 R.flanks.length f5, .int .i64 R.timer]) rfl Y2.out infoRoute7 rfl (by simp [Value.oneCell']) ?_)
      refine bodyPost_ret (results_rowS_tmp (c := #[.int .i64 R.id, .int .i64 R.entry, .int .i64 R.exit, .slice D3 R.path.length f3, .slice D4 R.over.length f4, .slice D5 R.flanks.length f5, .int .i64 R.timer]) rfl _ _ (w.heap.size + 1) rfl (setRow_heap _ _ _ _ _ _ Y2.out) Try.underlying35 infoRoute7 (.int .i64 0) rfl) rfl ⟨_, _, _, by rw [HE.out.1, HE.out.2, ← HR.out], ?_, below_setRow B2.out (Nat.le_succ _) _⟩
      rw [HE.out.2, ← HR.out]
      have hg := grownBy_setRow w2 (w.heap.size + 1) #[.int .i64 R.id, .int .i64 R.entry, .int .i64 R.exit, .slice D3 R.path.length f3, .slice D4 R.over.length f4, .slice D5 R.flanks.length f5, .int .i64 R.timer]
      have hlen := LEN.out
      exact ⟨(own_kept (R := IntR) intF RO.out.path hg (fun k hk => by have := own_lo RO.out.path k hk; omega)).mono (by omega), (own_kept (R := IntR) intF RO.out.over hg (fun k hk => by have := own_lo RO.out.over k hk; omega)).mono (by omega), (own_kept (R := JoinR) joinF RO.out.flanks hg (fun k hk => by have := own_lo RO.out.flanks k hk; omega)).mono (by omega)⟩

noncomputable def stE (p : Pl) (sec en : Int) : Int := if planMay p then nextE7 p.secs sec en else 8
noncomputable def stN (p : Pl) (sec en : Int) : Int := if stE p sec en = 0 then standsS p.sigs sec en else 0
set_option maxHeartbeats 4000000 in
theorem rstands_any (v : Value) (p : Pl) (sec en : Int) (w : World) (h : PlanV w w.heap.size v p) :
    Calls Try.prog 20 #[v, .int .i64 sec, .int .i64 en] w fun e w' => e = .returned (.tuple #[.int .i64 (stN p sec en), .int .i64 (stE p sec en)]) ∧ Below w.heap.size w w' := by
  obtain ⟨y2, y3, y4, y5, rfl, hin⟩ := h
  have HIN0 := Lib.hid hin
  obtain ⟨A2, c2, rfl, -, -⟩ := hin.secs.slice
  obtain ⟨A3, c3, rfl, -, -⟩ := hin.pts.slice
  obtain ⟨A4, c4, rfl, -, -⟩ := hin.sigs.slice
  obtain ⟨A5, c5, rfl, -, -⟩ := hin.routes.slice
  obtain ⟨n2, hn2⟩ : ∃ n, n = p.secs.length := ⟨_, rfl⟩
  obtain ⟨n3, hn3⟩ : ∃ n, n = p.pts.length := ⟨_, rfl⟩
  obtain ⟨n4, hn4⟩ : ∃ n, n = p.sigs.length := ⟨_, rfl⟩
  obtain ⟨n5, hn5⟩ : ∃ n, n = p.routes.length := ⟨_, rfl⟩
  have HIN : Hid (PlIn w w.heap.size (.slice A2 n2 c2) (.slice A3 n3 c3) (.slice A4 n4 c4) (.slice A5 n5 c5) p) := Lib.hid (by rw [hn2, hn3, hn4, hn5]; exact HIN0.out)
  have HN : Hid (n3 = p.pts.length ∧ n4 = p.sigs.length ∧ n5 = p.routes.length) := Lib.hid ⟨hn3, hn4, hn5⟩
  rw [← hn2, ← hn3, ← hn4, ← hn5]
  clear hn2 hn3 hn4 hn5 HIN0 hin
  have HE0 : Hid (stE p sec en = if planMay p then nextE7 p.secs sec en else 8) := Lib.hid rfl
  have HN0 : Hid (stN p sec en = if stE p sec en = 0 then standsS p.sigs sec en else 0) := Lib.hid rfl
  have hq0 := heap_alloc_self w (.cells #[.int .i64 p.ver, .int .i64 p.par, .slice A2 n2 c2, .slice A3 n3 c3, .slice A4 n4 c4, .slice A5 n5 c5] 30)
  have hqb := below_new w (.cells #[.int .i64 p.ver, .int .i64 p.par, .slice A2 n2 c2, .slice A3 n3 c3, .slice A4 n4 c4, .slice A5 n5 c5] 30)
  go_enter Try.func20, Try.ntmps20
  go_upto_region 1 with fail
  generalize w.alloc (.cells #[.int .i64 p.ver, .int .i64 p.par, .slice A2 n2 c2, .slice A3 n3 c3, .slice A4 n4 c4, .slice A5 n5 c5] 30) = q at hq0 hqb ⊢
  have QB := Lib.hid hqb
  have Q1 := Lib.hid hq0
  obtain ⟨k0, k1, k2, k3, k4, k5⟩ := cell6_of hq0
  clear hq0 hqb
  go_wp2_with fail
  refine (rmay8_any _ p q ⟨_, _, _, _, rfl, (HIN.out.below QB.out).more QB.out.size⟩).mono ?_
  rintro e w1 ⟨rfl, b1⟩
  have B1 := Lib.hid (QB.out.trans (b1.mono QB.out.size))
  have X1 := Lib.hid ((b1.block _ (heap_lt Q1.out)).trans Q1.out)
  clear b1 k0 k1 k2 k3 k4 k5
  cases hm : planMay p with
  | false =>
    have HE : Hid (stE p sec en = 8) := Lib.hid (by rw [HE0.out, hm]; rfl)
    have HN1 : Hid (stN p sec en = 0) := Lib.hid (by rw [HN0.out, HE.out]; rfl)
    clear hm
    go_wp2_with fail
    refine bodyPost_ret (results_tmp2 rfl _ _ _) rfl ?_
    exact ⟨by rw [HE.out, HN1.out]; rfl, B1.out⟩
  | true =>
    have HE1 : Hid (stE p sec en = nextE7 p.secs sec en) := Lib.hid (by rw [HE0.out, hm]; rfl)
    clear hm
    obtain ⟨k0, k1, k2, k3, k4, k5⟩ := cell6_of X1.out
    go_wp2_with fail
    refine (rnext7_any _ p.secs sec en w1 ((HIN.out.below B1.out).more B1.out.size).secs).mono ?_
    rintro e w2 ⟨rfl, b2⟩
    have B2 := Lib.hid (B1.out.trans (b2.mono B1.out.size))
    have X2 := Lib.hid ((b2.block _ (heap_lt X1.out)).trans X1.out)
    clear b2 k0 k1 k2 k3 k4 k5
    obtain ⟨E, hE⟩ : ∃ E, E = nextE7 p.secs sec en := ⟨_, rfl⟩
    obtain ⟨j1, hj1⟩ : ∃ j, j = (nextJ7 p.secs sec en).1 := ⟨_, rfl⟩
    obtain ⟨j2, hj2⟩ : ∃ j, j = (nextJ7 p.secs sec en).2 := ⟨_, rfl⟩
    have HEE : Hid (stE p sec en = E) := Lib.hid (by rw [HE1.out, hE])
    rw [← hE, ← hj1, ← hj2]
    clear hE hj1 hj2
    have hz0 := below_new w2 (.cells #[.int .i64 j1, .int .i64 j2] 66)
    have hx0 := (hz0.block _ (heap_lt X2.out)).trans X2.out
    obtain ⟨q8, hq8⟩ : ∃ q8, q8 = w2.alloc (.cells #[.int .i64 j1, .int .i64 j2] 66) := ⟨_, rfl⟩
    rw [← hq8] at hz0 hx0
    go_upto_region 4 with fail
    rw [← hq8]
    have B8 := Lib.hid (B2.out.trans (hz0.mono B2.out.size))
    have X8 := Lib.hid hx0
    clear hz0 hx0 hq8
    obtain ⟨k0, k1, k2, k3, k4, k5⟩ := cell6_of X8.out
    by_cases h0 : E = 0
    · subst h0
      have HN1 : Hid (stN p sec en = standsS p.sigs sec en) := Lib.hid (by rw [HN0.out, HEE.out, if_pos rfl])
      go_wp2_with fail
      refine (rat8_any _ p sec en q8 ⟨_, _, _, _, rfl, (HIN.out.below B8.out).more B8.out.size⟩).mono ?_
      rintro e w3 ⟨rfl, b3⟩
      have B3 := Lib.hid (B8.out.trans (b3.mono B8.out.size))
      clear b3
      go_wp2_with fail
      refine bodyPost_ret (results_tmp2 rfl _ _ _) rfl ?_
      exact ⟨by rw [HEE.out, HN1.out]; rfl, B3.out⟩
    · have hne : (E != 0) = true := by simpa using h0
      have HN1 : Hid (stN p sec en = 0) := Lib.hid (by rw [HN0.out, HEE.out, if_neg h0])
      clear h0
      go_wp2_with fail
      refine bodyPost_ret (results_tmp2 rfl _ _ _) rfl ?_
      exact ⟨by rw [HEE.out, HN1.out]; rfl, B8.out⟩
end Go.Proofs.Ythlolpflgninjaa
