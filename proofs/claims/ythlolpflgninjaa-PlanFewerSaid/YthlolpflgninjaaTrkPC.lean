/-
  The program's package track: joins, through.
  Conditions: the sections rise.
-/
import Derived.Test.YthlolpflgninjaaTrkPB
set_option linter.unusedVariables false
set_option linter.unusedSimpArgs false
set_option maxRecDepth 100000
namespace Go.Proofs.Ythlolpflgninjaa
open Go.RowKit

def joinsB (l : List Sec) (a o : Jn) : Bool := atB l a.1 && (leadsB (atV l a.1) a.2 && decide (leadsJ (atV l a.1) a.2 = o))
set_option maxHeartbeats 4000000 in
theorem joins_any (v : Value) (l : List Sec) (a o : Jn) (w : World) (h : SectsIn w w.heap.size v l) (hr : Rises l) (hl16 : l.length ≤ 16) :
    Calls Try.prog 89 #[v, .agg #[.int .i64 a.1, .int .i64 a.2], .agg #[.int .i64 o.1, .int .i64 o.2]] w fun e w' => e = .returned (.bool (joinsB l a o)) ∧ Below w.heap.size w w' := by
  have H := Lib.hid h
  have HR := Lib.hid hr
  have HL := Lib.hid hl16
  obtain ⟨A, c, rfl, -, -⟩ := h.slice
  obtain ⟨n, hn⟩ : ∃ n, n = l.length := ⟨_, rfl⟩
  rw [← hn] at H ⊢
  clear h hn hr hl16
  obtain ⟨a1, a2⟩ := a
  obtain ⟨o1, o2⟩ := o
  have J0 : Hid (joinsB l (a1, a2) (o1, o2) = (atB l a1 && (leadsB (atV l a1) a2 && decide (leadsJ (atV l a1) a2 = (o1, o2))))) := Lib.hid rfl
  dsimp only
  generalize hj : joinsB l (a1, a2) (o1, o2) = jb at J0 ⊢
  clear hj
  have hq := two_boxes w (.cells #[.int .i64 a1, .int .i64 a2] 66) (.cells #[.int .i64 o1, .int .i64 o2] 66)
  go_enter Try.func89, Try.ntmps89
  go_upto_region 1 with fail
  generalize (w.alloc (.cells #[.int .i64 a1, .int .i64 a2] 66)).alloc (.cells #[.int .i64 o1, .int .i64 o2] 66) = q at hq ⊢
  obtain ⟨q0, q1, qb⟩ := hq
  have X0 := Lib.hid q0
  have X1 := Lib.hid q1
  have QB := Lib.hid qb
  clear q0 q1 qb
  obtain ⟨k0, k1⟩ := cell2_of X0.out
  go_wp2_with fail
  refine (at_any _ l a1 q ((H.out.below secR_ QB.out).more secR_ QB.out.size) HR.out HL.out).mono ?_
  rintro e w1 ⟨x, rfl, hx, b1⟩
  have X01 := Lib.hid ((b1.block _ (heap_lt X0.out)).trans X0.out)
  have X11 := Lib.hid ((b1.block _ (heap_lt X1.out)).trans X1.out)
  have B1 := Lib.hid (QB.out.trans (b1.mono QB.out.size))
  generalize atV l a1 = s at hx J0
  have HX := Lib.hid hx
  obtain ⟨u, rfl, hu⟩ := hx
  obtain ⟨Au, cu, rfl, -, -⟩ := hu.slice
  obtain ⟨id, pt, es⟩ := s
  dsimp only at HX hu ⊢
  obtain ⟨m, hm⟩ : ∃ m, m = es.length := ⟨_, rfl⟩
  rw [← hm] at HX ⊢
  clear b1 k0 k1 hu hm
  have hy0 := heap_alloc_self w1 (.cells #[.int .i64 id, .int .i64 pt, .slice Au m cu] 64)
  have hyb := below_new w1 (.cells #[.int .i64 id, .int .i64 pt, .slice Au m cu] 64)
  obtain ⟨q7, hq7⟩ : ∃ q7, q7 = w1.alloc (.cells #[.int .i64 id, .int .i64 pt, .slice Au m cu] 64) := ⟨_, rfl⟩
  rw [← hq7] at hy0 hyb
  cases hg : atB l a1 with
  | false =>
    have HJ : Hid (jb = false) := Lib.hid (by rw [J0.out, hg]; rfl)
    clear hg
    go_wp2_with fail
    go_ret
    exact ⟨by rw [HJ.out]; rfl, by rw [← hq7]; exact B1.out.trans (hyb.mono B1.out.size)⟩
  | true =>
    have J1 : Hid (jb = (leadsB (id, pt, es) a2 && decide (leadsJ (id, pt, es) a2 = (o1, o2)))) := Lib.hid (by rw [J0.out, hg]; rfl)
    clear hg
    go_upto_region 4 with fail
    rw [← hq7]
    have B7 := Lib.hid (B1.out.trans (hyb.mono B1.out.size))
    have X7 := Lib.hid hy0
    have X07 := Lib.hid ((hyb.block _ (heap_lt X01.out)).trans X01.out)
    have X17 := Lib.hid ((hyb.block _ (heap_lt X11.out)).trans X11.out)
    have HX7 := Lib.hid ((HX.out.below hyb).more hyb.size)
    generalize w1.heap.size = p7 at X7 ⊢
    clear hy0 hyb hq7
    obtain ⟨k0, k1, k2⟩ := cell3_of X7.out
    obtain ⟨r0, r1⟩ := cell2_of X07.out
    go_wp2_with fail
    refine (leads_any _ (id, pt, es) a2 q7 HX7.out).mono ?_
    rintro e w2 ⟨rfl, b2⟩
    have X12 := Lib.hid ((b2.block _ (heap_lt X17.out)).trans X17.out)
    have B2 := Lib.hid (B7.out.trans (b2.mono B7.out.size))
    clear b2 k0 k1 k2 r0 r1
    generalize leadsJ (id, pt, es) a2 = y at J1 ⊢
    obtain ⟨y1, y2⟩ := y
    have hz0 := heap_alloc_self w2 (.cells #[.int .i64 y1, .int .i64 y2] 66)
    have hzb := below_new w2 (.cells #[.int .i64 y1, .int .i64 y2] 66)
    obtain ⟨q9, hq9⟩ : ∃ q9, q9 = w2.alloc (.cells #[.int .i64 y1, .int .i64 y2] 66) := ⟨_, rfl⟩
    rw [← hq9] at hz0 hzb
    go_upto_region 5 with fail
    rw [← hq9]
    have B9 := Lib.hid (B2.out.trans (hzb.mono B2.out.size))
    have X9 := Lib.hid hz0
    have X19 := Lib.hid ((hzb.block _ (heap_lt X12.out)).trans X12.out)
    generalize w2.heap.size = p9 at X9 ⊢
    clear hz0 hzb hq9
    obtain ⟨k0, k1⟩ := cell2_of X9.out
    obtain ⟨r0, r1⟩ := cell2_of X19.out
    cases hg : leadsB (id, pt, es) a2 with
    | false =>
      have HJ : Hid (jb = false) := Lib.hid (by rw [J1.out, hg]; rfl)
      clear hg
      go_wp2_with fail
      go_ret
      exact ⟨by rw [HJ.out]; rfl, B9.out⟩
    | true =>
      by_cases he : y1 = o1 ∧ y2 = o2
      · have HJ : Hid (jb = true) := Lib.hid (by rw [J1.out, hg, he.1, he.2]; simp)
        obtain ⟨rfl, rfl⟩ := he
        have hj := join_self y1 y2
        clear hg
        go_wp2_with fail
        go_ret
        exact ⟨by rw [HJ.out]; rfl, B9.out⟩
      · have HJ : Hid (jb = false) := Lib.hid (by rw [J1.out, hg, decide_eq_false (fun h => by injection h with h1 h2; exact he ⟨h1, h2⟩)]; rfl)
        have hj := join_ne he
        clear hg he
        go_wp2_with fail
        go_ret
        exact ⟨by rw [HJ.out]; rfl, B9.out⟩

theorem wpList_store_row7 {P : Program} {ops : Array Oper} {rest : List Oper} {op : Oper} {a : Act} {w : World} {Q : Exit → Act → World → Prop} (hgd : op.guard = none) (ty : TypeId) (x y : Operand) (ho : op.op = .store ty x y)
    (b : Nat) (hx : a.eval x = .pointer (some ⟨b, 0, none⟩)) {c c' : Array Value} (hy : a.eval y = .agg c') {t : TypeId} (hb : w.heap[b]? = some (.cells c t (0, 0)))
    (hi : (P.info? ty).map (·.size) = some c'.size) (hs : c.size = c'.size) (h1 : c'.all (·.oneCell') = true)
    (h : wpList P ops Q rest (a.put op.dst undef) (w.setRow b c')) : wpList P ops Q (op :: rest) a w :=
  wpList_plain hgd fun _ hK => by
    unfold Oper.wp execOp
    simp only [ho, hx, hy, Instr.storeAt, Instr.sureAddr, Sem.run_bind, Sem.run_pure, Result.andThen_ok]
    rw [run_storeVar_row w b t ty c c' hb hi hs h1]
    exact hK _ _ h
theorem results_row_tmp7 {P : Program} {fn : Func} {p u : Tmp} {ty : TypeId} (h : fn.results = #[.cell p ty, .tmp u]) (tmps : Array Value) (w : World) (g : Nat) {c : Array Value} {t : TypeId} {fr : Nat × Nat} (hp : tmps.getD p undef = .pointer (some ⟨g, 0, none⟩)) (hb : w.heap[g]? = some (.cells c t fr))
    {n : Nat} {e : TypeId} (hu : P.underlying ty = some (.array n e)) (hi : (P.info? ty).map (·.size) = some c.size) (x : Value) (hx : tmps.getD u undef = x) : (results fn tmps).run P w = .ok (.tuple #[.agg c, x]) w := by
  have hp' : tmps[p]?.getD undef = .pointer (some ⟨g, 0, none⟩) := by simpa using hp
  rw [results_cell_tmp h, hp, hx]
  simp [asAddr, run_loadVar_row w g t ty c fr _ hb hu rfl (by simpa using hi)]
def ways0 : Array Value := #[.bool false, .int .i64 0, .bool false, .int .i64 0, .bool false, .int .i64 0, .bool false, .int .i64 0, .bool false, .int .i64 0, .bool false, .int .i64 0, .bool false, .int .i64 0, .bool false, .int .i64 0, .bool false, .int .i64 0]
def ways1 : Array Value := #[.bool false, .int .i64 0, .bool true, .int .i64 0, .bool false, .int .i64 0, .bool true, .int .i64 0, .bool false, .int .i64 0, .bool false, .int .i64 0, .bool false, .int .i64 0, .bool false, .int .i64 0, .bool false, .int .i64 0]
def ways2 : Array Value := #[.bool false, .int .i64 0, .bool true, .int .i64 1, .bool true, .int .i64 2, .bool true, .int .i64 1, .bool false, .int .i64 0, .bool false, .int .i64 0, .bool true, .int .i64 2, .bool false, .int .i64 0, .bool false, .int .i64 0]
theorem ways0_one : ways0.all (·.oneCell') = true := by kernel_rfl
theorem ways1_one : ways1.all (·.oneCell') = true := by kernel_rfl
theorem ways2_one : ways2.all (·.oneCell') = true := by kernel_rfl
def waysOf (s : Sec) : Array Value := if shapedB s then (if s.2.1 = 0 then ways1 else ways2) else ways0
theorem ways_size (s : Sec) : (waysOf s).size = 18 ∧ (waysOf s).all (·.oneCell') = true := by
  rw [waysOf]
  split
  · split
    · exact ⟨rfl, ways1_one⟩
    · exact ⟨rfl, ways2_one⟩
  · exact ⟨rfl, ways0_one⟩
theorem infoWays : (Try.prog.info? 129).map (·.size) = some 18 := by kernel_rfl
set_option maxHeartbeats 4000000 in
theorem through_ways (v : Value) (s : Sec) (w : World) (h : SecV w w.heap.size v s) :
    Calls Try.prog 88 #[v] w fun e w' => e = .returned (.tuple #[.agg (waysOf s), .bool (shapedB s)]) ∧ Below w.heap.size w w' := by
  obtain ⟨u, rfl, hu⟩ := h
  obtain ⟨A, c, rfl, -, -⟩ := hu.slice
  obtain ⟨id, pt, l⟩ := s
  dsimp only at hu ⊢
  obtain ⟨n, hn⟩ : ∃ n, n = l.length := ⟨_, rfl⟩
  have HS : Hid (shapedB (id, pt, l) = if pt = 0 then decide (n = 2) else decide (1 ≤ pt) && (decide (pt ≤ 99) && decide (n = 3))) := Lib.hid (by rw [hn]; rfl)
  have HW : Hid (waysOf (id, pt, l) = if shapedB (id, pt, l) then (if pt = 0 then ways1 else ways2) else ways0) := Lib.hid rfl
  rw [← hn]
  clear hu hn
  have hq := two_boxes w (.cells #[.int .i64 id, .int .i64 pt, .slice A n c] 64) (.cells ways0 129)
  go_enter Try.func88, Try.ntmps88
  go_upto_region 1 with fail
  obtain ⟨q, hqe⟩ : ∃ q, q = (w.alloc (.cells #[.int .i64 id, .int .i64 pt, .slice A n c] 64)).alloc (.cells ways0 129) := ⟨_, rfl⟩
  have hqs : q.heap.size = w.heap.size + 2 := by rw [hqe]; simp
  rw [← hqe] at hq
  change Code.wp _ _ _ _ ((w.alloc _).alloc (.cells ways0 _))
  rw [← hqe]
  obtain ⟨q0, q1, qb⟩ := hq
  have X0 := Lib.hid q0
  have X1 := Lib.hid q1
  have QB := Lib.hid qb
  have QS := Lib.hid hqs
  clear q0 q1 qb hqe hqs
  obtain ⟨k0, k1, k2⟩ := cell3_of X0.out
  have NO : Hid (shapedB (id, pt, l) = false → ∀ c : Bool, c = false → (Ending.returned (.tuple #[.agg ways0, .bool c]) : Ending) = .returned (.tuple #[.agg (waysOf (id, pt, l)), .bool (shapedB (id, pt, l))])) := Lib.hid (fun h c hc => by rw [HW.out, h, hc]; rfl)
  by_cases h0 : pt = 0
  · subst h0
    by_cases h2 : n = 2
    · have HR : Hid (shapedB (id, 0, l) = true) := Lib.hid (by rw [HS.out, if_pos rfl]; exact decide_eq_true h2)
      have HV : Hid (waysOf (id, 0, l) = ways1) := Lib.hid (by rw [HW.out, HR.out]; rfl)
      have d2 : ((n : Int) == 2) = true := by simpa using (by omega : (n : Int) = 2)
      clear h2
      have hz0 := heap_alloc_self q (.cells #[.bool true, .int .i64 0] 126)
      have hzb := below_new q (.cells #[.bool true, .int .i64 0] 126)
      obtain ⟨q4, hq4⟩ : ∃ q4, q4 = q.alloc (.cells #[.bool true, .int .i64 0] 126) := ⟨_, rfl⟩
      rw [← hq4] at hz0 hzb
      go_upto_region 3 with fail
      rw [← hq4]
      have B4 := Lib.hid (QB.out.trans (hzb.mono QB.out.size))
      have X4 := Lib.hid hz0
      have X14 := Lib.hid ((hzb.block _ (heap_lt X1.out)).trans X1.out)
      generalize q.heap.size = p4 at X4 ⊢
      clear k0 k1 k2 hz0 hzb hq4
      obtain ⟨k0, k1⟩ := cell2_of X4.out
      go_wp2_with ((with_reducible show wpList _ _ _ (⟨none, _, _, _, _, _⟩ :: _) _ _); refine wpList_store_row7 rfl _ (.tmp 2) (.tmp 21) rfl (w.heap.size + 1) rfl (c' := ways1) rfl X14.out (by kernel_rfl) rfl ways1_one ?_)
      refine bodyPost_ret (results_row_tmp7 rfl _ _ (w.heap.size + 1) rfl (setRow_heap _ _ _ _ _ _ X14.out) Try.underlying129 (by kernel_rfl) (.bool true) rfl) rfl ⟨by rw [HR.out, HV.out], below_setRow B4.out (Nat.le_succ _) _⟩
    · have d2 : ((n : Int) == 2) = false := by rw [beq_eq_false_iff_ne]; omega
      have hbad := (show shapedB (id, 0, l) = false from by rw [HS.out, if_pos rfl]; exact decide_eq_false h2)
      have NR := Lib.hid (NO.out hbad _ rfl)
      clear hbad
      go_wp2_with ((with_reducible show wpList _ _ _ (⟨none, _, _, _, _, _⟩ :: _) _ _); refine wpList_store_row7 rfl _ (.tmp 2) (.tmp 46) rfl (w.heap.size + 1) rfl (c' := ways0) rfl X1.out (by kernel_rfl) rfl ways0_one ?_)
      refine bodyPost_ret (results_row_tmp7 rfl _ _ (w.heap.size + 1) rfl (setRow_heap _ _ _ _ _ _ X1.out) Try.underlying129 (by kernel_rfl) (.bool false) rfl) rfl ⟨NR.out, below_setRow QB.out (Nat.le_succ _) _⟩
  · have d0 : (pt == 0) = false := by rw [beq_eq_false_iff_ne]; exact h0
    by_cases h1 : 1 ≤ pt
    · have d1 : decide (1 ≤ pt) = true := decide_eq_true h1
      by_cases h2 : pt ≤ 99
      · have d99 : decide (pt ≤ 99) = true := decide_eq_true h2
        by_cases h3 : n = 3
        · have d3 : ((n : Int) == 3) = true := by simpa using (by omega : (n : Int) = 3)
          have HR : Hid (shapedB (id, pt, l) = true) := Lib.hid (by rw [HS.out, if_neg h0, d1, d99, decide_eq_true h3]; rfl)
          have HV : Hid (waysOf (id, pt, l) = ways2) := Lib.hid (by rw [HW.out, HR.out, if_pos rfl, if_neg h0])
          have hz := two_boxes q (.cells #[.bool true, .int .i64 1] 126) (.cells #[.bool true, .int .i64 2] 126)
          obtain ⟨q4, hq4⟩ : ∃ q4, q4 = (q.alloc (.cells #[.bool true, .int .i64 1] 126)).alloc (.cells #[.bool true, .int .i64 2] 126) := ⟨_, rfl⟩
          rw [← hq4] at hz
          obtain ⟨hz0, hz1, hzb⟩ := hz
          clear h0 h1 h2 h3
          go_upto_region 6 with fail
          rw [← hq4]
          have B4 := Lib.hid (QB.out.trans (hzb.mono QB.out.size))
          have X4 := Lib.hid hz0
          have X5 := Lib.hid hz1
          have X14 := Lib.hid ((hzb.block _ (heap_lt X1.out)).trans X1.out)
          generalize q.heap.size = p4 at X4 X5 ⊢
          clear k0 k1 k2 hz0 hz1 hzb hq4
          obtain ⟨k0, k1⟩ := cell2_of X4.out
          obtain ⟨r0, r1⟩ := cell2_of X5.out
          go_wp2_with ((with_reducible show wpList _ _ _ (⟨none, _, _, _, _, _⟩ :: _) _ _); refine wpList_store_row7 rfl _ (.tmp 2) (.tmp 45) rfl (w.heap.size + 1) rfl (c' := ways2) rfl X14.out (by kernel_rfl) rfl ways2_one ?_)
          refine bodyPost_ret (results_row_tmp7 rfl _ _ (w.heap.size + 1) rfl (setRow_heap _ _ _ _ _ _ X14.out) Try.underlying129 (by kernel_rfl) (.bool true) rfl) rfl ⟨by rw [HR.out, HV.out], below_setRow B4.out (Nat.le_succ _) _⟩
        · have d3 : ((n : Int) == 3) = false := by rw [beq_eq_false_iff_ne]; omega
          have hbad := (show shapedB (id, pt, l) = false from by rw [HS.out, if_neg h0, decide_eq_false h3, Bool.and_false, Bool.and_false])
          have NR := Lib.hid (NO.out hbad _ rfl)
          clear hbad
          go_wp2_with ((with_reducible show wpList _ _ _ (⟨none, _, _, _, _, _⟩ :: _) _ _); refine wpList_store_row7 rfl _ (.tmp 2) (.tmp 46) rfl (w.heap.size + 1) rfl (c' := ways0) rfl X1.out (by kernel_rfl) rfl ways0_one ?_)
          refine bodyPost_ret (results_row_tmp7 rfl _ _ (w.heap.size + 1) rfl (setRow_heap _ _ _ _ _ _ X1.out) Try.underlying129 (by kernel_rfl) (.bool false) rfl) rfl ⟨NR.out, below_setRow QB.out (Nat.le_succ _) _⟩
      · have d99 : decide (pt ≤ 99) = false := decide_eq_false h2
        have hbad := (show shapedB (id, pt, l) = false from by rw [HS.out, if_neg h0, decide_eq_false h2, Bool.false_and, Bool.and_false])
        have NR := Lib.hid (NO.out hbad _ rfl)
        clear hbad
        go_wp2_with ((with_reducible show wpList _ _ _ (⟨none, _, _, _, _, _⟩ :: _) _ _); refine wpList_store_row7 rfl _ (.tmp 2) (.tmp 46) rfl (w.heap.size + 1) rfl (c' := ways0) rfl X1.out (by kernel_rfl) rfl ways0_one ?_)
        refine bodyPost_ret (results_row_tmp7 rfl _ _ (w.heap.size + 1) rfl (setRow_heap _ _ _ _ _ _ X1.out) Try.underlying129 (by kernel_rfl) (.bool false) rfl) rfl ⟨NR.out, below_setRow QB.out (Nat.le_succ _) _⟩
    · have d1 : decide (1 ≤ pt) = false := decide_eq_false h1
      have hbad := (show shapedB (id, pt, l) = false from by rw [HS.out, if_neg h0, decide_eq_false h1, Bool.false_and])
      have NR := Lib.hid (NO.out hbad _ rfl)
      clear hbad
      go_wp2_with ((with_reducible show wpList _ _ _ (⟨none, _, _, _, _, _⟩ :: _) _ _); refine wpList_store_row7 rfl _ (.tmp 2) (.tmp 46) rfl (w.heap.size + 1) rfl (c' := ways0) rfl X1.out (by kernel_rfl) rfl ways0_one ?_)
      refine bodyPost_ret (results_row_tmp7 rfl _ _ (w.heap.size + 1) rfl (setRow_heap _ _ _ _ _ _ X1.out) Try.underlying129 (by kernel_rfl) (.bool false) rfl) rfl ⟨NR.out, below_setRow QB.out (Nat.le_succ _) _⟩
end Go.Proofs.Ythlolpflgninjaa
