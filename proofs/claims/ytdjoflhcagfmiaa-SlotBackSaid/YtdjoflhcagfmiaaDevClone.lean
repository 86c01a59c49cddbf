/-
  Copies of bytes and of a write, and whether two are the same, as the program asks it.
  Conditions: none.
-/
import Derived.Test.YtdjoflhcagfmiaaDevCheck
import Derived.Deep.RegionHeld3
set_option linter.unusedVariables false
set_option linter.unusedSimpArgs false
set_option maxRecDepth 100000
namespace Go.Proofs.Ytdjoflhcagfmiaa
open Go.RowKit

theorem heap_lt {w : World} {b : Nat} {o : Obj} (h : w.heap[b]? = some o) : b < w.heap.size := (Array.getElem?_eq_some_iff.1 h).1

theorem clone_any (v : Value) (xs : Bs) (w : World) {B : Nat} (hB : B ≤ w.heap.size) (h : Txt w B v xs) (hl : xs.length ≤ 140737488355328) :
    Calls Try.prog 48 #[v] w fun e w' => ∃ y, e = .returned y ∧ w'.ownsRow w.heap.size 5 1 y xs.length (xs.map u8) ∧ Below w.heap.size w w' := by
  have H := Lib.hid h
  obtain ⟨A, cap, rfl, -, -, hn, -⟩ := h
  cases A with
  | none =>
    obtain rfl := hn rfl
    have hx : xs = [] := by obtain ⟨A', c', e, h1, _⟩ := H.out; cases e; exact List.eq_nil_of_length_eq_zero (by omega)
    subst hx
    have he : ∀ w : World, (binOp .eql 34 (.slice none 0 0) (.slice none 0 0)).run Try.prog w = .ok (.bool true) w := fun _ => rfl
    go_enter Try.func48, Try.ntmps48
    go_wp2_with fail
    go_ret
    exact ⟨_, rfl, World.ownsRow_nil _ _ _ _, Below.refl _ _⟩
  | some a =>
    obtain ⟨i0, hi, hz0, hz1, hz2⟩ := info_parts infoByte
    have I0 := Lib.hid hi
    have I1 := Lib.hid hz0
    have I2 := Lib.hid hz1
    have I3 := Lib.hid hz2
    have he : ∀ w : World, (binOp .eql 34 (.slice (some a) xs.length cap) (.slice none 0 0)).run Try.prog w = .ok (.bool false) w := fun _ => rfl
    clear hi hz0 hz1 hz2 hn
    go_enter Try.func48, Try.ntmps48
    go_wp2_with (refine wpList_append_txt (o := ⟨some 7, _, _, _, _, _⟩) rfl (.tmp 5) (.tmp 6) _ rfl Try.underlying34 I0.out I1.out I2.out I3.out rfl (base := w.heap.size) (n := 0) (ys := []) ⟨rfl, .inr ⟨_, _, _, rfl, Nat.le_refl _, heap_alloc_self _ _, Nat.zero_le _, Nat.zero_le _, rfl, rfl⟩⟩ rfl (H.out.below ((Below.refl _ _).alloc hB _)) (by omega) (by simp) ?_; intro v1 w1 hown1 hgrow1)
    go_ret
    exact ⟨_, rfl, by simpa using hown1, (below_new w _).grown hgrow1 (by simp) (fun k hk => by cases hk; exact Nat.le_refl _)⟩

theorem equal_any (v y : Value) (xs ys : Bs) (w : World) {B B' : Nat} (h : Txt w B v xs) (h' : Txt w B' y ys) :
    Calls Try.prog 55 #[v, y] w fun e w' => e = .returned (.bool (decide (xs = ys))) ∧ w = w' := by
  have c1 := run_txt_string h
  have c2 := run_txt_string h'
  have hd : decide ((⟨xs.toArray⟩ : ByteArray) = ⟨ys.toArray⟩) = decide (xs = ys) := by
    apply decide_eq_decide.2
    constructor
    · intro e
      have := congrArg (fun b : ByteArray => b.data.toList) e
      simpa using this
    · rintro rfl; rfl
  have HD := Lib.hid hd
  clear hd h h'
  go_enter Try.func55, Try.ntmps55
  go_wp2_with fail
  go_ret
  exact ⟨by rw [show (xs == ys) = decide (xs = ys) from by rw [Bool.eq_iff_iff]; simp]; rfl, rfl⟩

/-- A write, as a value, in memory. -/
def WrIn (W : World) (B : Nat) (v : Value) (x : Wr) : Prop := ∃ u, v = .agg #[.int .i64 x.1, u] ∧ Txt W B u x.2
theorem wp_load_2 {P : Program} {op : Oper} {a : Act} {w : World} {K : Act → World → Prop} {Q : Exit → Act → World → Prop} (ty : TypeId) (x : Operand) (ho : op.op = .load ty x)
    (b : Nat) (hx : a.eval x = .pointer (some ⟨b, 0, none⟩)) {v1 v2 : Value} {t : TypeId} {fr : Nat × Nat} (hb : w.heap[b]? = some (.cells #[v1, v2] t fr)) {fs : Array Field} (hu : P.underlying ty = some (.struct fs)) (hi : (P.info? ty).map (·.size) = some 2)
    (h : K (a.put op.dst (.agg #[v1, v2])) w) : op.wp P a w K Q := wp_load_mid ty x ho b 0 hx [v1, v2] _ (range2_of hb) hu rfl hi h
theorem set2 (w : World) (b : Nat) (v1 v2 : Value) : w.setRow b #[v1, v2] = w.setRow b #[v1, v2] := rfl
/-- A struct of two cells into a block that holds one, as one operation. -/
theorem wp_store_2 {P : Program} {op : Oper} {a : Act} {w : World} {K : Act → World → Prop} {Q : Exit → Act → World → Prop} (ty : TypeId) (x y : Operand) (ho : op.op = .store ty x y)
    (b : Nat) (hx : a.eval x = .pointer (some ⟨b, 0, none⟩)) {c1 c2 v1 v2 : Value} (hy : a.eval y = .agg #[v1, v2]) {t : TypeId} (hb : w.heap[b]? = some (.cells #[c1, c2] t (0, 0)))
    (hi : (P.info? ty).map (·.size) = some 2) (h1 : v1.oneCell' = true) (h2 : v2.oneCell' = true)
    (h : K (a.put op.dst undef) (w.setRow b #[v1, v2])) : op.wp P a w K Q := by
  unfold Oper.wp execOp
  simp only [ho, hx, hy, Instr.storeAt, Instr.sureAddr, Sem.run_bind, Sem.run_pure, Result.andThen_ok]
  rw [run_storeVar_row w b t ty #[c1, c2] #[v1, v2] hb hi rfl (by simp [h1, h2])]
  exact h
theorem owns_setRow {w : World} {base e size n : Nat} {v : Value} {ys : List Value} (h : w.ownsRow base e size v n ys) {g : Nat} (hg : g < base) (cs : Array Value) : (w.setRow g cs).ownsRow base e size v n ys := by
  refine ⟨h.1, ?_⟩
  rcases h.2 with h2 | ⟨b, cap, cur, h1, h2, h3, h4⟩
  · exact .inl h2
  · exact .inr ⟨b, cap, cur, h1, h2, (setRow_other w g b cs (by omega)).trans h3, h4⟩
theorem own_oneCell {w : World} {base e size n : Nat} {v : Value} {ys : List Value} (h : w.ownsRow base e size v n ys) : v.oneCell' = true := by
  rcases h.2 with ⟨rfl, _⟩ | ⟨g, cap, cur, rfl, _⟩ <;> rfl
/-- The results of a function whose result is a struct of two cells in memory. -/
theorem results_cell_2 {P : Program} {fn : Func} {p : Tmp} {ty : TypeId} (h : fn.results = #[.cell p ty]) (tmps : Array Value) (w : World) (g : Nat) {v1 v2 : Value} {t : TypeId} (hp : tmps.getD p undef = .pointer (some ⟨g, 0, none⟩)) (hb : w.heap[g]? = some (.cells #[v1, v2] t (0, 0)))
    {fs : Array Field} (hu : P.underlying ty = some (.struct fs)) (hi : (P.info? ty).map (·.size) = some 2) : (results fn tmps).run P w = .ok (.agg #[v1, v2]) w :=
  results_cell_row h tmps w g t #[v1, v2] (0, 0) _ hp hb hu rfl (by simpa using hi)
theorem twinWrite_any (v : Value) (a : Wr) (w : World) {B : Nat} (hB : B ≤ w.heap.size) (h : WrIn w B v a) (hl : a.2.length ≤ 140737488355328) :
    Calls Try.prog 73 #[v] w fun e w' => ∃ y, e = .returned (.agg #[.int .i64 a.1, y]) ∧ w'.ownsRow w.heap.size 5 1 y a.2.length (a.2.map u8) ∧ Below w.heap.size w w' := by
  obtain ⟨u1, rfl, t1⟩ := h
  have T1 := Lib.hid t1
  clear t1
  have HB0 : Hid (Below w.heap.size w ((w.alloc (.cells #[.int .i64 a.1, u1] 52)).alloc (.cells #[.int .i64 0, .slice none 0 0] 52))) := Lib.hid ((below_new w _).alloc (by simp) _)
  have hc1 : ((w.alloc (.cells #[.int .i64 a.1, u1] 52)).alloc (.cells #[.int .i64 0, .slice none 0 0] 52)).heap[w.heap.size]? = some (.cells #[.int .i64 a.1, u1] 52 (0, 0)) := by
    rw [heap_alloc_lt _ _ (by rw [heap_alloc_size]; omega)]; exact heap_alloc_self _ _
  have hc2 : ((w.alloc (.cells #[.int .i64 a.1, u1] 52)).alloc (.cells #[.int .i64 0, .slice none 0 0] 52)).heap[w.heap.size + 1]? = some (.cells #[.int .i64 0, .slice none 0 0] 52 (0, 0)) := by
    have := heap_alloc_self (w.alloc (.cells #[.int .i64 a.1, u1] 52)) (.cells #[.int .i64 0, .slice none 0 0] 52)
    rwa [heap_alloc_size] at this
  go_enter Try.func73, Try.ntmps73
  go_wp2_with fail
  generalize (w.alloc (.cells #[.int .i64 a.1, u1] 52)).alloc (.cells #[.int .i64 0, .slice none 0 0] 52) = q at HB0 hc1 hc2 ⊢
  have C1 := Lib.hid hc1
  have C2 := Lib.hid hc2
  have R0 : Hid (Below w.heap.size w q.drew) := Lib.hid (HB0.out.drew)
  have R1 : Hid (Below q.heap.size q q.drew) := Lib.hid (Below.refl _ q).drew
  clear hc1 hc2
  refine wp_region_held_drew (S := fun v => v.heap[w.heap.size]? = some (.cells #[.int .i64 a.1, u1] 52 (0, 0))) (by kernel_rfl) ?_ (fun hHeld => ?_)
  · exact C1.out
  refine wpAnyH_take (i := 0) (v := ?_) rfl (by kernel_rfl) (by kernel_rfl) (by kernel_rfl) (fun _ _ _ h => h) (Or.inl ⟨by rfl, ?_⟩) hHeld ?_
  rotate_left
  · intro w' hSw; go_simp; try with_reducible rfl
  simp only [List.getElem_toArray, List.getElem_cons_succ, List.getElem_cons_zero, Act.put, List.setIfInBounds_toArray, List.set_cons_zero, List.set_cons_succ]
  refine wpAnyH_take (i := 1) (v := ?_) rfl (by kernel_rfl) (by kernel_rfl) (by kernel_rfl) (fun _ _ _ h => h) (Or.inl ⟨by rfl, ?_⟩) hHeld ?_
  rotate_left
  · intro w' hSw; obtain ⟨c0, c1⟩ := cell2_of hSw; go_simp; try with_reducible rfl
  simp only [List.getElem_toArray, List.getElem_cons_succ, List.getElem_cons_zero, Act.put, List.setIfInBounds_toArray, List.set_cons_zero, List.set_cons_succ]
  refine wpAnyH_take (i := 2) (v := ?_) rfl (by kernel_rfl) (by kernel_rfl) (by kernel_rfl) (fun _ _ _ h => h) (Or.inl ⟨by rfl, ?_⟩) hHeld ?_
  rotate_left
  · intro w' hSw; go_simp; try with_reducible rfl
  simp only [List.getElem_toArray, List.getElem_cons_succ, List.getElem_cons_zero, Act.put, List.setIfInBounds_toArray, List.set_cons_zero, List.set_cons_succ]
  refine wpAnyH_take (i := 3) (v := ?_) rfl (by kernel_rfl) (by kernel_rfl) (by kernel_rfl) (fun _ _ _ h => h) (Or.inl ⟨by rfl, ?_⟩) hHeld ?_
  rotate_left
  · intro w' hSw; obtain ⟨c0, c1⟩ := cell2_of hSw; go_simp; try with_reducible rfl
  simp only [List.getElem_toArray, List.getElem_cons_succ, List.getElem_cons_zero, Act.put, List.setIfInBounds_toArray, List.set_cons_zero, List.set_cons_succ]
  refine wpAnyH_ready (rs := [4]) (by kernel_rfl) (by simp) ?_
  refine AllReadyH.cons rfl (fun K hK => ?_) AllReadyH.nil
  go_simp
  refine (clone_any _ _ q.drew (B := B) (Nat.le_trans hB R0.out.size) (T1.out.below (R0.out.mono hB)) hl).mono ?_
  rintro e wA ⟨y, rfl, hoA, bA⟩
  have OA := Lib.hid hoA
  have R2 := Lib.hid (R1.out.trans (bA.mono R1.out.size))
  obtain ⟨A9, c9, rfl⟩ := own_slice_ hoA
  clear hoA bA
  try go_wp2_with fail
  refine hK.out _ _ ?_ (fun hHeld => ?_)
  · exact (R2.out.block _ (heap_lt C1.out)).trans C1.out
  clear hK K
  try simp only [List.getElem_toArray, List.getElem_cons_succ, List.getElem_cons_zero, Act.put, List.setIfInBounds_toArray, List.set_cons_zero, List.set_cons_succ]
  refine wpAnyH_take (i := 5) (v := ?_) rfl (by kernel_rfl) (by kernel_rfl) (by kernel_rfl) (fun _ _ _ h => h) (Or.inl ⟨by rfl, ?_⟩) hHeld ?_
  rotate_left
  · intro w' hSw; go_simp; try with_reducible rfl
  simp only [List.getElem_toArray, List.getElem_cons_succ, List.getElem_cons_zero, Act.put, List.setIfInBounds_toArray, List.set_cons_zero, List.set_cons_succ]
  have C3 := Lib.hid ((R2.out.block _ (heap_lt C2.out)).trans C2.out)
  refine wpAnyH_ready (rs := [6]) (by kernel_rfl) (by simp) ?_
  refine AllReadyH.cons rfl (fun K hK => ?_) AllReadyH.nil
  rw [if_pos (by rfl)]
  refine wp_store_2 52 _ _ rfl (w.heap.size + 1) rfl rfl C3.out infoWrite2 rfl rfl ?_
  refine hK.out _ _ ?_ (fun hHeld => ?_)
  · exact (setRow_other _ _ _ _ (by omega)).trans hHeld
  clear hK K
  try simp only [List.getElem_toArray, List.getElem_cons_succ, List.getElem_cons_zero, Act.put, List.setIfInBounds_toArray, List.set_cons_zero, List.set_cons_succ]
  refine wpAnyH_done (by kernel_rfl) ?_ _
  have hall := Lib.hid (HB0.out.trans (R2.out.mono HB0.out.size))
  have hcell := Lib.hid (setRow_heap _ _ _ #[.int .i64 a.1, .slice A9 a.2.length c9] _ _ C3.out)
  clear R1
  go_wp2_with fail
  refine bodyPost_ret (v := .agg #[.int .i64 a.1, .slice A9 a.2.length c9]) ?_ rfl ⟨_, rfl, ?_, ?_⟩
  · exact results_cell_2 rfl _ _ (w.heap.size + 1) rfl hcell.out Try.underlying52 infoWrite2
  · exact owns_mono (owns_setRow OA.out (by have := heap_lt C2.out; show _ < q.heap.size; exact this) _) R0.out.size
  · exact below_setRow hall.out (by omega) _
end Go.Proofs.Ytdjoflhcagfmiaa
