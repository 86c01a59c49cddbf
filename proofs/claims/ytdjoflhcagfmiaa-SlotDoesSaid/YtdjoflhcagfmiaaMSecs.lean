/-
  A record's sectors, as the program makes them.
  Conditions: the record may be.
-/
import Derived.Test.YtdjoflhcagfmiaaMSlot
import Derived.Test.YtdjoflhcagfmiaaMBase
import Derived.Test.YtdjoflhcagfmiaaMDisk
import Derived.Great.BuildSlice
import Derived.StillTailTactics
set_option linter.unusedVariables false
set_option linter.unusedSimpArgs false
set_option maxRecDepth 100000
namespace Go.Proofs.Ytdjoflhcagfmiaa
open Go.RowKit Go.Shelf

attribute [local go_sem] Oper.semAt_some

theorem chunk_made (A : Option Addr) (n c : Nat) (w : World) :
    Calls Try.prog 60 #[.slice A n c, .int .i64 118] w fun e w' => e = .returned (.func (.func 87) #[] #[.pointer (some ⟨w.heap.size, 0, none⟩), .pointer (some ⟨w.heap.size + 1, 0, none⟩)]) ∧
      w' = (w.alloc (.cells #[.slice A n c] 34)).alloc (.cells #[.int .i64 118] 3) := by
  have hmf : ∀ (fn : Fn) (first cap : Array Value) (w : World), (Instr.makeFunc fn first cap).run Try.prog w = .ok (.func fn first cap) w := fun _ _ _ _ => rfl
  go_enter Try.func60, Try.ntmps60
  go_wp2
  go_ret
  exact ⟨rfl, rfl⟩

/-- Arrays of 128 bytes in a row of the call's own. -/
def flatR (ls : List Bs) : List Value := (ls.map fun s => s.map u8).flatten
theorem flatR_snoc (ls : List Bs) (s : Bs) : flatR (ls ++ [s]) = flatR ls ++ s.map u8 := by simp [flatR]
def ArrsAt (W : World) (lo : Nat) (v : Value) (ls : List Bs) : Prop := W.ownsRow lo 77 128 v ls.length (flatR ls)
theorem infoArr : (Try.prog.info? 77).map (fun i => (i.size, i.bytes)) = some (128, 128) := by kernel_rfl
theorem info_128 : ∃ i, Try.prog.info? 77 = some i ∧ i.zero = some (.agg (Array.replicate 128 (.int .u8 0))) ∧ i.size = 128 ∧ i.bytes = 128 := by
  have h : (Try.prog.info? 77).map (fun i => (i.zero, i.size, i.bytes)) = some (some (.agg (Array.replicate 128 (.int .u8 0))), 128, 128) := by kernel_rfl
  obtain ⟨i, hi, h0, h1, h2⟩ := info_parts h
  exact ⟨i, hi, h0, h1, h2⟩

/-- The sectors of pieces, numbered as they come. -/
def outI (g n : Nat) (b : Bs) (is : List Nat) : List Bs := is.foldl (fun acc i => acc ++ [secP g acc.length n (pieceB b i)]) []
theorem outI_snoc (g n : Nat) (b : Bs) (is : List Nat) (i : Nat) : outI g n b (is ++ [i]) = outI g n b is ++ [secP g (outI g n b is).length n (pieceB b i)] := by simp [outI, List.foldl_append]
theorem outI_range (g n : Nat) (b : Bs) : ∀ m, outI g n b (List.range m) = (List.range m).map (fun i => secP g i n (pieceB b i))
  | 0 => rfl
  | m + 1 => by rw [List.range_succ, outI_snoc, outI_range g n b m, List.map_append, List.length_map, List.length_range]; rfl
theorem foldl_len (f : List Bs → Nat → Bs) : ∀ (is : List Nat) (acc : List Bs), (is.foldl (fun acc i => acc ++ [f acc i]) acc).length = acc.length + is.length
  | [], acc => rfl
  | i :: is, acc => by rw [List.foldl_cons, foldl_len f is]; simp; omega
theorem outI_length (g n : Nat) (b : Bs) (is : List Nat) : (outI g n b is).length = is.length := by rw [outI, foldl_len]; simp
theorem ArrsAt.turned {W W' : World} {row : Option Nat} {lo : Nat} {v : Value} {ls : List Bs} (h : ArrsAt W lo v ls) (hg : W.grownBy W' row) (hr : ∀ r, row = some r → ∃ o : Obj, W.heap[r]? = some o ∧ o.isCells = false) : ArrsAt W' lo v ls := owns_turned h hg hr
theorem ArrsAt.below {W W' : World} {lo : Nat} {v : Value} {ls : List Bs} (h : ArrsAt W lo v ls) (hb : Below W.heap.size W W') : ArrsAt W' lo v ls := owns_below h hb

theorem build_arr (l : Bs) (h : l.length = 128) (w : World) : (Instr.buildSlice 75 1 #[(0, .agg (rowB l))]).run Try.prog w = .ok (.slice (some ⟨w.heap.size, 0, none⟩) 1 1) (w.alloc (.cells (rowB l) 77)) := by
  obtain ⟨i, hi, h0, h1, h2⟩ := info_128
  have hc : (Value.agg (rowB l)).cells = rowB l := rfl
  have hs : (Value.agg (rowB l)).cells.size = 128 := by rw [hc, rowB_size, h]
  obtain ⟨r, hr, hsz, hk⟩ := Great.fill_dense (s := 128) (by omega) [.agg (rowB l)] 0 ((Array.range (1 * 128)).map ((Value.agg (Array.replicate 128 (.int .u8 0))).cells[· % (Value.agg (Array.replicate 128 (.int .u8 0))).cells.size]!)) (fun v hv => by rw [List.mem_singleton.1 hv]; exact hs) (by simp)
  have hz : ((Array.range (1 * 128)).map ((Value.agg (Array.replicate 128 (.int .u8 0))).cells[· % (Value.agg (Array.replicate 128 (.int .u8 0))).cells.size]!)).size = 128 := by simp
  have hre : r = rowB l := by
    apply Array.ext_getElem?
    intro k
    rw [hk]
    by_cases hk1 : k < 128
    · rw [if_pos (by simp; omega), show k / 128 - 0 = 0 from by omega, Nat.mod_eq_of_lt hk1]
      rfl
    · rw [if_neg (by simp; omega), Array.getElem?_eq_none (by rw [hz]; omega), Array.getElem?_eq_none (by rw [rowB_size, h]; omega)]
  subst hre
  exact run_buildSlice w 75 77 1 #[(0, .agg (rowB l))] (rowB l) i _ Try.underlying75 hi h0 (by rw [h1]; omega) (by rw [h1]; omega) (by rw [h1]; exact hr)

theorem wp_build_arr {o : Oper} {a : Act} {w : World} {K : Act → World → Prop} {Q : Exit → Act → World → Prop} (x : Operand) (ho : o.op = .buildSlice 75 1 #[(0, x)]) {l : Bs} (hx : a.eval x = .agg (rowB l)) (hl : l.length = 128)
    (h : K (a.put o.dst (.slice (some ⟨w.heap.size, 0, none⟩) 1 1)) (w.alloc (.cells (rowB l) 77))) : o.wp Try.prog a w K Q := by
  unfold Oper.wp execOp
  simp only [ho, Sem.run_bind]
  rw [show (#[(0, x)].map fun (p : Nat × Operand) => (p.1, a.eval p.2)) = #[(0, Value.agg (rowB l))] from by simp [hx], build_arr l hl w]
  simp only [Result.andThen_ok]
  exact h
theorem wp_append_big {P : Program} {w : World} {o : Oper} {a : Act} {K : Act → World → Prop} {Q : Exit → Act → World → Prop} (s x : Operand) (t : TypeId)
    (ho : o.op = .call { callee := .builtin .append, args := #[s, x], argTypes := #[t, t] })
    {base e size bytes : Nat} {i : TypeInfo} {z : Value} (ht : P.underlying t = some (.slice e)) (hi : P.info? e = some i) (hz : i.zero = some z) (hzs : z.cells.size = size) (hsize : i.size = size) (hsz : 0 < size) (hby : i.bytes = bytes) (hb8 : bytes ≤ 1000)
    {v : Value} {n m : Nat} {ys : List Value} (hs : a.eval s = v) (hown : w.ownsRow base e size v n ys) {b c : Nat} {news : List Value} (hu : a.eval x = .slice (some ⟨b, 0, none⟩) m c) (hl : news.length = m * size)
    (hc : ∀ j u, news[j]? = some u → w.cell? ⟨b, j, none⟩ = some u) (h1 : ∀ u ∈ news, u.oneCell' = true) (h63 : n + m ≤ 100000) (hbase : base ≤ w.heap.size)
    (h : ∀ v' w', w'.ownsRow base e size v' (n + m) (ys ++ news) → w.grownBy w' v.ownBlock → K (a.put o.dst v') w') : o.wp P a w K Q := by
  obtain ⟨v', w', hrun, h2, h3, _⟩ := run_append_own (P := P) w base t o.type e i z size bytes ht hi hz hsize hby hzs hsz v n ys hown ⟨b, 0, none⟩ m c news hl (fun j u hj => by rw [Addr.add_lit, Nat.zero_add]; exact hc j u hj) h1 (by unfold maxLen; omega)
    (by have := Nat.mul_le_mul h63 hb8; omega) hbase
  unfold Oper.wp execOp
  simp only [ho, resolve, invoke, builtin, Sem.run_bind, Sem.run_pure, Result.andThen_ok, List.map_toArray, List.map_cons, List.map_nil, hs, hu, hrun]
  exact h v' w' h2 h3
theorem own_sliceN {w : World} {base e size n : Nat} {v : Value} {ys : List Value} (h : w.ownsRow base e size v n ys) : ∃ A c, v = .slice A n c := by
  rcases h.2 with ⟨h1, h2⟩ | ⟨gg, cap, cur, h1, _⟩
  · exact ⟨none, 0, by rw [h1, h2]⟩
  · exact ⟨_, _, h1⟩
theorem keepsOthers_below {W W' : World} (h : Below W.heap.size W W') : KeepsOthers W W' := ⟨h.size, fun l o hl _ => (h.block l (Array.getElem?_eq_some_iff.1 hl).1).trans hl⟩
/-- What a round keeps that appends an array to a row whose slice lies in a box. -/
theorem arr_round {W wA w5 : World} {lo B bo n : Nat} {v v5 : Value} {ys zs : List Value} {o : Obj} (hb : bo < lo) (hB : B ≤ bo) (ho : W.heap[bo]? = some (.cells #[v] 75 (0, 0))) (hown : W.ownsRow lo 77 128 v n ys) (hlo : lo ≤ W.heap.size)
    (bA : Below W.heap.size W wA) (hg : (wA.alloc o).grownBy w5 v.ownBlock) (hown5 : w5.ownsRow lo 77 128 v5 (n + 1) zs) :
    w5.heap[bo]? = some (.cells #[v] 75 (0, 0)) ∧ KeepsOthers W (w5.setCell ⟨bo, 0, none⟩ v5) ∧ KeepB B W (w5.setCell ⟨bo, 0, none⟩ v5) ∧ Boxed (w5.setCell ⟨bo, 0, none⟩ v5) bo 75 v5 ∧ (w5.setCell ⟨bo, 0, none⟩ v5).ownsRow lo 77 128 v5 (n + 1) zs := by
  have b1 : Below W.heap.size W (wA.alloc o) := bA.alloc bA.size o
  have o1 : (wA.alloc o).ownsRow lo 77 128 v n ys := owns_below hown b1
  have h0 : w5.heap[bo]? = some (.cells #[v] 75 (0, 0)) := (hg.block bo (Nat.lt_of_lt_of_le (heap_lt ho) b1.size) (fun e => by have := own_ge o1 _ e.symm; omega)).trans ((b1.block _ (heap_lt ho)).trans ho)
  have hbx : Boxed w5 bo 75 v := h0
  have hbelow : Below B W w5 := ((b1.mono (by omega)).grown hg (Nat.le_trans (by omega) b1.size) (fun k hk => by have := own_ge o1 k hk; omega))
  refine ⟨h0, ?_, ⟨hbelow.setCell (p := ⟨bo, 0, none⟩) hB _, fun bn t u ht hbn => ?_⟩, hbx.set _, ?_⟩
  · refine ((keepsOthers_below b1).trans (KeepsOthers.of_grownBy hg (fun j o' e ho' => ?_))).trans (KeepsOthers.setCell _ _ _)
    obtain ⟨c, h1, _⟩ := owns_block o1 e
    rw [h1] at ho'
    cases ho'
    rfl
  · have h1 : Boxed (wA.alloc o) bn t u := (b1.block bn hbn.lt).trans hbn
    have h2 : Boxed w5 bn t u := h1.kept hg (h1.not_row (by rcases ht with rfl | rfl <;> decide) o1)
    refine h2.kept (grownBy_setCell' w5 bo _) (fun e => ?_)
    obtain rfl : bn = bo := by simpa using e
    have h3 : w5.heap[bn]? = _ := h2
    rw [h0] at h3
    cases h3
    rcases ht with h | h <;> exact absurd h (by decide)
  · refine hown5.kept (grownBy_setCell' w5 bo _) ?_
    cases hv : v5.ownBlock with
    | none => exact .inl rfl
    | some gg => exact .inr (fun e => by have := own_ge hown5 gg hv; have : gg = bo := (by simpa using e); omega)

set_option maxHeartbeats 4000000 in
theorem sectors_any (g : Nat) (t : Bs) (v : Value) (w : World) (hg : g < 4294967296) (hl : t.length ≤ 1882) (h : Txt w w.heap.size v t) :
    Calls Try.prog 36 #[.agg #[.int .u32 g, v]] w fun e w' => ∃ y, e = .returned y ∧ ArrsAt w' w.heap.size y (secsR g t) ∧ Below w.heap.size w w' := by
  have X := Lib.hid h
  have HG := Lib.hid hg
  have HL := Lib.hid hl
  obtain ⟨A3, c3, rfl, -, -, -, -⟩ := h
  clear hg hl
  obtain ⟨b, hb⟩ : ∃ b, b = bodyR g t := ⟨_, rfl⟩
  have hbl : b.length = t.length + 6 := by rw [hb, bodyR_length]
  refine (callsIn_wide (n := 3)).1 ?_
  refine callsIn_of_wp_marks Try.func36 rfl trivial ?_ rfl
  simp only [Try.ntmps36, List.size_toArray, List.length_cons, List.length_nil, Nat.reduceAdd, Nat.reduceSub, Array.replicate_succ, Array.replicate_zero, List.push_toArray, List.append_toArray, List.nil_append, List.cons_append]
  gi_wp2_with fail
  have hq1 := heap_alloc_self w (.cells #[.int .u32 g, .slice A3 t.length c3] 36)
  have hqb := below_new w (.cells #[.int .u32 g, .slice A3 t.length c3] 36)
  generalize w.alloc (.cells #[.int .u32 g, .slice A3 t.length c3] 36) = q at hq1 hqb ⊢
  refine ⟨trivial, ?_⟩
  refine (callsIn_wide.2 (bytesOf_any g t _ q HG.out HL.out ((X.out.below hqb).more hqb.size))).mono ?_
  rintro e w1 ⟨y1, rfl, o1, b1⟩
  rw [← hb] at o1
  obtain ⟨A1, c1, rfl⟩ := own_slice_ o1
  have O1 := Lib.hid o1
  have B1 := Lib.hid (hqb.trans (b1.mono hqb.size))
  have R1 := Lib.hid ((b1.block _ (heap_lt hq1)).trans hq1)
  have LQ : Hid (w.heap.size < q.heap.size ∧ q.heap.size ≤ w1.heap.size) := Lib.hid ⟨heap_lt hq1, b1.size⟩
  clear hq1 hqb o1 b1
  have hbb : b.length ≤ 2000 := by have := HL.out; omega
  obtain ⟨n, hn⟩ : ∃ n, n = cntB b := ⟨_, rfl⟩
  have hnn : ((b.length : Int) + 118 - 1) / 118 = n := by rw [hn, cntB]; omega
  have hn0 : n ≤ 17 := by rw [hn, cntB]; omega
  have HB := Lib.hid hb
  have HN := Lib.hid hn
  clear hb hn hbl
  gi_wp2_with fail
  have u1 := heap_alloc_self w1 (.cells #[.int .i64 (n : Int)] 3)
  have u2 := heap_alloc_self (w1.alloc (.cells #[.int .i64 (n : Int)] 3)) (.cells #[.slice none 0 0] 75)
  rw [heap_alloc_size] at u2
  have u3 := (heap_alloc_lt (w1.alloc (.cells #[.int .i64 (n : Int)] 3)) (.cells #[.slice none 0 0] 75) (by rw [heap_alloc_size]; omega)).trans u1
  have ub : Below w1.heap.size w1 ((w1.alloc (.cells #[.int .i64 (n : Int)] 3)).alloc (.cells #[.slice none 0 0] 75)) := (below_new _ _).alloc (by simp) _
  generalize (w1.alloc (.cells #[.int .i64 (n : Int)] 3)).alloc (.cells #[.slice none 0 0] 75) = u at u2 u3 ub ⊢
  clear u1
  refine ⟨trivial, ?_⟩
  refine (callsIn_wide.2 (chunk_made A1 b.length c1 u)).mono ?_
  rintro e w2 ⟨rfl, he2⟩
  have hBW : Boxed w2 u.heap.size 34 (.slice A1 b.length c1) := by rw [he2]; exact (Boxed.new u _ _).alloc _
  have hBN : Boxed w2 (u.heap.size + 1) 3 (.int .i64 118) := by
    rw [he2]
    have := Boxed.new (u.alloc (.cells #[.slice A1 b.length c1] 34)) 3 (.int .i64 118)
    rwa [World.size_alloc] at this
  have hb2 : Below u.heap.size u w2 := by rw [he2]; exact (below_new _ _).alloc (by simp) _
  clear he2
  have B2 := Lib.hid (B1.out.trans ((ub.trans (hb2.mono ub.size)).mono B1.out.size))
  have LW : Hid (w.heap.size < w1.heap.size ∧ w1.heap.size + 1 < u.heap.size ∧ u.heap.size + 1 < w2.heap.size) := Lib.hid ⟨by have := LQ.out; omega, heap_lt u2, hBN.lt⟩
  have U2 : Hid (Boxed w2 (w1.heap.size + 1) 75 (.slice none 0 0)) := Lib.hid ((hb2.block _ (heap_lt u2)).trans u2)
  have U3 : Hid (Boxed w2 w1.heap.size 3 (.int .i64 n)) := Lib.hid ((hb2.block _ (heap_lt u3)).trans u3)
  have hR2 := (hb2.block _ (by have := LW.out; omega : w.heap.size < u.heap.size)).trans ((ub.block _ LW.out.1).trans R1.out)
  have R2 := Lib.hid hR2
  have T1 := Lib.hid (Txt.of_own O1.out (by unfold maxLen; omega))
  have T2 := Lib.hid ((T1.out.below ub).below (hb2.mono ub.size))
  clear u2 u3 ub hb2 hR2 hnn
  gi_wp2_with fail
  refine wpIn_rangeFunc_ownF rfl (by omega) (gf := 87) (lb := #[.pointer (some ⟨u.heap.size, 0, none⟩), .pointer (some ⟨u.heap.size + 1, 0, none⟩)]) rfl trivial (enters_of Try.func87 (by kernel_rfl) rfl)
    (encs := encC) (Kp := KeepB w1.heap.size) (S := fun xs' : List (Ch w2 w1.heap.size b) => xs'.map (·.i) = List.range (cntB b)) (Sp := fun _ => True) (N := cntB b) (w0 := w2)
    (fun l J Jx W hW hJ hJx hY h0 => chunk1_whole 2 (by omega) l u.heap.size (u.heap.size + 1) w1.heap.size w2 b _ T2.out (by omega) J Jx W hJ hY (by have := hW.size; have := LW.out; omega) (hW.mono (by have := LW.out; omega)) ((hW.block _ hBW.lt).trans hBW) ((hW.block _ hBN.lt).trans hBN) h0)
    KeepB.trans (fun W l o o' hl h ho _ => KeepB.putObj W l o o' (by have := LW.out; omega) h ho) (Below.refl _ _) (fun _ => rfl)
    (fun pre W => ((∃ v, Boxed W (w1.heap.size + 1) 75 v ∧ ArrsAt W u.heap.size v (outI g n b (pre.map (·.i)))) ∧ Boxed W w1.heap.size 3 (.int .i64 n)) ∧ Below w1.heap.size w2 W)
    (fun _ _ _ => False)
    (OwnFrom.and (fun s W W' row h hg hr => by
      obtain ⟨⟨v, h1, h2⟩, h3⟩ := h
      have h1' : W.heap[w1.heap.size + 1]? = _ := h1
      have h3' : W.heap[w1.heap.size]? = _ := h3
      exact ⟨⟨v, heap_turned h1' hg (fun r e => (hr r e).2), h2.turned hg (fun r e => (hr r e).2)⟩, heap_turned h3' hg (fun r e => (hr r e).2)⟩) (ownFrom_below (by have := LW.out; omega) (by have := LW.out; omega)))
    (fun _ _ _ _ _ hs _ _ => hs)
    ⟨⟨⟨_, U2.out, World.ownsRow_nil _ _ _ _⟩, U3.out⟩, Below.refl _ _⟩
    (fun x => { tmps := #[.agg #[.int .u32 g, .slice A3 t.length c3], .pointer (some ⟨w.heap.size, 0, none⟩), .slice none 0 0, .slice A1 b.length c1, .pointer (some ⟨w1.heap.size, 0, none⟩), .pointer (some ⟨w1.heap.size + 1, 0, none⟩), x.v,
      .agg #[.int .u32 g, .slice A3 t.length c3], .slice A1 b.length c1, .slice A1 b.length c1, .int .i64 b.length, .int .i64 ((b.length : Int) + 118), .int .i64 ((b.length : Int) + 118 - 1), .int .i64 (((b.length : Int) + 118 - 1) / 118), .slice A1 b.length c1,
      .func (.func 87) #[] #[.pointer (some ⟨u.heap.size, 0, none⟩), .pointer (some ⟨u.heap.size + 1, 0, none⟩)], x.v, undef, undef, undef, undef, undef, undef, undef, undef, undef, undef, undef], defers := [] }) ?assign ?body ?done ?stop
  case assign =>
    intro l x W K hK
    dsimp only [encC]
    gi_wp2
    exact hK
  case body =>
    rintro l pre x W ⟨⟨⟨v, ho, hr⟩, hn⟩, hB⟩ hlt
    have hmx : Try.prog.follows .mixedOrders = true := by kernel_rfl
    have hol : (outI g n b (pre.map (·.i))).length = pre.length := by rw [outI_length, List.length_map]
    obtain ⟨A9, c9, rfl⟩ : ∃ A c, v = .slice A pre.length c := by
      rw [← hol]
      exact own_sliceN hr
    have hpl : pre.length < 17 := by have := HN.out; omega
    have hcO := ho.cell
    have hfO := ho.frozen
    have hcN := hn.cell
    have hcR := (cell2_of ((hB.block w.heap.size (by have := LW.out; omega)).trans R2.out)).1
    have HF := Lib.hid (sfilled_any g pre.length n (pieceB b x.i) x.v W.drew HG.out (by omega) (by omega) (pieceB_le _ _) ((x.ht.below hB).more (Nat.le_trans (by have := LW.out; omega) hB.size)))
    have HO : Hid (W.drew.heap[w1.heap.size + 1]? = some (.cells #[.slice A9 pre.length c9] 75 (0, 0))) := Lib.hid ho
    have hr' : W.ownsRow u.heap.size 77 128 (.slice A9 pre.length c9) pre.length (flatR (outI g n b (pre.map (·.i)))) := by
      have h := hr
      unfold ArrsAt at h
      rwa [hol] at h
    have HR : Hid (W.drew.ownsRow u.heap.size 77 128 (.slice A9 pre.length c9) pre.length (flatR (outI g n b (pre.map (·.i))))) := Lib.hid hr'
    have HNN := Lib.hid hn
    have HNC : Hid (W.cell? ⟨w1.heap.size, 0, none⟩ = some (.int .i64 n)) := Lib.hid hcN
    have HRC : Hid (W.heap[w.heap.size]? = some (.cells #[.int .u32 g, .slice A3 t.length c3] 36 (0, 0))) := Lib.hid ((hB.block w.heap.size (by have := LW.out; omega)).trans R2.out)
    have HBB := Lib.hid hB
    have HOL := Lib.hid hol
    have HSZ : Hid (w1.heap.size + 1 < u.heap.size ∧ u.heap.size ≤ W.heap.size) := Lib.hid ⟨by have := LW.out; omega, by have := LW.out; have := hB.size; omega⟩
    have HPL := Lib.hid hpl
    have hsl : (secP g pre.length n (pieceB b x.i)).length = 128 := secP_length (pieceB_le _ _)
    have hnext : outI g n b ((pre ++ [x]).map (·.i)) = outI g n b (pre.map (·.i)) ++ [secP g pre.length n (pieceB b x.i)] := by
      rw [List.map_append, List.map_cons, List.map_nil, outI_snoc, hol]
    obtain ⟨sec, hsec⟩ : ∃ s, s = secP g pre.length n (pieceB b x.i) := ⟨_, rfl⟩
    rw [← hsec] at HF hsl hnext
    have HSL := Lib.hid hsl
    have HNX := Lib.hid hnext
    obtain ⟨i9, h91, h92, h93, h94⟩ := info_128
    have I91 := Lib.hid h91
    have I92 := Lib.hid h92
    have I93 := Lib.hid h93
    have I94 := Lib.hid h94
    have hcO : W.drew.cell? ⟨w1.heap.size + 1, 0, none⟩ = some (.slice A9 pre.length c9) := hcO
    clear ho hr hn hB hol hr' hsl hnext hsec hcR hfO h91 h92 h93 h94 hcN
    gi_wp2
    refine wpIn_region_held (S := fun w' => Below (w1.heap.size + 1) W.drew w') (noDefer_of (by kernel_rfl)) (by rintro ⟨a0, w0, h⟩; exact h) hmx (Below.refl _ _) (fun hHeld => ?_)
    refine wpAnyH_take (i := 1) (v := ?_) rfl (by kernel_rfl) (by kernel_rfl) (by kernel_rfl) (fun _ _ _ h => h) (Or.inl ⟨by rfl, ?_⟩) hHeld ?_
    rotate_left
    · intro w' hSw; go_simp; try with_reducible rfl
    simp only [List.getElem_toArray, List.getElem_cons_succ, List.getElem_cons_zero, Act.put, List.setIfInBounds_toArray, List.set_cons_zero, List.set_cons_succ]
    refine wpAnyH_take (i := 2) (v := ?_) rfl (by kernel_rfl) (by kernel_rfl) (by kernel_rfl) (fun _ _ _ h => h) (Or.inl ⟨by rfl, ?_⟩) hHeld ?_
    rotate_left
    · intro w' hSw; have cR := (cell2_of (((show Below (w1.heap.size + 1) W.drew w' from hSw).block w.heap.size (by have := LW.out; omega)).trans HRC.out)).1; go_simp; try with_reducible rfl
    simp only [List.getElem_toArray, List.getElem_cons_succ, List.getElem_cons_zero, Act.put, List.setIfInBounds_toArray, List.set_cons_zero, List.set_cons_succ]
    refine wpAnyH_take (i := 5) (v := ?_) rfl (by kernel_rfl) (by kernel_rfl) (by kernel_rfl) (fun _ _ _ h => h) (Or.inl ⟨by rfl, ?_⟩) hHeld ?_
    rotate_left
    · intro w' hSw; have cN := ((show Below (w1.heap.size + 1) W.drew w' from hSw).cell (p := ⟨w1.heap.size, 0, none⟩) (Nat.lt_succ_self _)).trans HNC.out; go_simp; try with_reducible rfl
    simp only [List.getElem_toArray, List.getElem_cons_succ, List.getElem_cons_zero, Act.put, List.setIfInBounds_toArray, List.set_cons_zero, List.set_cons_succ]
    refine wpAnyH_take (i := 6) (v := ?_) rfl (by kernel_rfl) (by kernel_rfl) (by kernel_rfl) (fun _ _ _ h => h) (Or.inl ⟨by rfl, ?_⟩) hHeld ?_
    rotate_left
    · intro w' hSw; go_simp; try with_reducible rfl
    simp only [List.getElem_toArray, List.getElem_cons_succ, List.getElem_cons_zero, Act.put, List.setIfInBounds_toArray, List.set_cons_zero, List.set_cons_succ]
    refine wpAnyH_ready (rs := [0, 3]) (by kernel_rfl) (by simp) ?_
    refine AllReadyH.cons rfl (fun K hK => ?_) (AllReadyH.cons rfl (fun K hK => ?_) AllReadyH.nil)
    · go_simp
      refine hK.out _ _ ?_ (fun hHeld => ?_)
      · exact Below.refl _ _
      clear hK K
      try simp only [List.getElem_toArray, List.getElem_cons_succ, List.getElem_cons_zero, Act.put, List.setIfInBounds_toArray, List.set_cons_zero, List.set_cons_succ]
      refine wpAnyH_ready (rs := [3]) (by kernel_rfl) (by simp) ?_
      refine AllReadyH.cons rfl (fun K hK => ?_) AllReadyH.nil
      go_simp
      refine hK.out _ _ ?_ (fun hHeld => ?_)
      · exact Below.refl _ _
      clear hK K
      try simp only [List.getElem_toArray, List.getElem_cons_succ, List.getElem_cons_zero, Act.put, List.setIfInBounds_toArray, List.set_cons_zero, List.set_cons_succ]
      refine wpAnyH_take (i := 4) (v := ?_) rfl (by kernel_rfl) (by kernel_rfl) (by kernel_rfl) (fun _ _ _ h => h) (Or.inl ⟨by rfl, ?_⟩) hHeld ?_
      rotate_left
      · intro w' hSw; go_simp; try with_reducible rfl
      simp only [List.getElem_toArray, List.getElem_cons_succ, List.getElem_cons_zero, Act.put, List.setIfInBounds_toArray, List.set_cons_zero, List.set_cons_succ]
      refine wpAnyH_ready (rs := [7]) (by kernel_rfl) (by simp) ?_
      refine AllReadyH.cons rfl (fun K hK => ?_) AllReadyH.nil
      go_simp
      refine HF.out.mono ?_
      rintro e wA ⟨rfl, bA⟩
      have BA : Hid (Below W.drew.heap.size W.drew wA) := Lib.hid bA
      have hcA : wA.cell? ⟨w1.heap.size + 1, 0, none⟩ = some (.slice A9 pre.length c9) := (bA.cell (p := ⟨w1.heap.size + 1, 0, none⟩) (heap_lt HO.out)).trans hcO
      clear bA
      try go_wp2_with fail
      refine hK.out _ _ ?_ (fun hHeld => ?_)
      · exact BA.out.mono (by have := HSZ.out; show _ ≤ W.heap.size; omega)
      clear hK K
      try simp only [List.getElem_toArray, List.getElem_cons_succ, List.getElem_cons_zero, Act.put, List.setIfInBounds_toArray, List.set_cons_zero, List.set_cons_succ]
      refine wpAnyH_ready (rs := [8]) (by kernel_rfl) (by simp) ?_
      refine AllReadyH.cons rfl (fun K hK => ?_) AllReadyH.nil
      rw [if_pos (by rfl)]
      refine wp_build_arr (.tmp 24) rfl rfl HSL.out ?_
      refine hK.out _ _ ?_ (fun hHeld => ?_)
      · exact (BA.out.mono (by have := HSZ.out; show _ ≤ W.heap.size; omega)).alloc (by have := HSZ.out; have : W.heap.size ≤ wA.heap.size := BA.out.size; omega) _
      clear hK K
      try simp only [List.getElem_toArray, List.getElem_cons_succ, List.getElem_cons_zero, Act.put, List.setIfInBounds_toArray, List.set_cons_zero, List.set_cons_succ]
      refine wpAnyH_ready (rs := [9]) (by kernel_rfl) (by simp) ?_
      refine AllReadyH.cons rfl (fun K hK => ?_) AllReadyH.nil
      rw [if_pos (by rfl)]
      refine wp_append_big (.tmp 17) (.tmp 25) _ rfl Try.underlying75 I91.out I92.out (by simp [Value.cells]) I93.out (by decide) I94.out (by decide) rfl ((owns_below HR.out BA.out).alloc _) (m := 1) rfl (news := sec.map u8) (by rw [List.length_map, HSL.out]) (fun j u' hj => by rw [World.cell?_alloc_new]; simpa [rowB] using hj) (u8s_oneCell sec) (by have := HPL.out; omega) (by have := BA.out.size; have := HSZ.out; have : W.heap.size ≤ wA.heap.size := BA.out.size; simp; omega) ?_
      intro v5 w5 hown5 hgrow5
      obtain ⟨A5, c5, rfl⟩ := own_sliceN hown5
      obtain ⟨r1, r2, r3, r4, r5⟩ := arr_round (B := w1.heap.size) HSZ.out.1 (Nat.le_succ _) HO.out HR.out HSZ.out.2 BA.out hgrow5 hown5
      have hS5 : Below (w1.heap.size + 1) W.drew w5 := ((((BA.out.mono (by have := HSZ.out; show _ ≤ W.heap.size; omega)).alloc (by have := HSZ.out; have : W.heap.size ≤ wA.heap.size := BA.out.size; omega) _).grown hgrow5 (by have := HSZ.out; have : W.heap.size ≤ wA.heap.size := BA.out.size; simp; omega) (fun k hk => by have := own_ge HR.out k hk; have := HSZ.out; omega)))
      have R2' := Lib.hid r2
      have R3' := Lib.hid r3
      have R4' := Lib.hid r4
      have R5' := Lib.hid r5
      have S5 := Lib.hid hS5
      have m0 := cell_of_row w5 (w1.heap.size + 1) 0 _ _ _ r1
      have m1 := frozen_of_row w5 (w1.heap.size + 1) 0 _ _ r1
      clear hown5 hgrow5 r1 r2 r3 r4 r5 hS5
      refine hK.out _ _ ?_ (fun hHeld => ?_)
      · exact S5.out
      clear hK K
      try simp only [List.getElem_toArray, List.getElem_cons_succ, List.getElem_cons_zero, Act.put, List.setIfInBounds_toArray, List.set_cons_zero, List.set_cons_succ]
      refine wpAnyH_ready (rs := [10]) (by kernel_rfl) (by simp) ?_
      refine AllReadyH.cons rfl (fun K hK => ?_) AllReadyH.nil
      go_simp
      refine hK.out _ _ ?_ (fun hHeld => ?_)
      · exact S5.out.setCell (p := ⟨w1.heap.size + 1, 0, none⟩) (Nat.le_refl _) _
      clear hK K
      try simp only [List.getElem_toArray, List.getElem_cons_succ, List.getElem_cons_zero, Act.put, List.setIfInBounds_toArray, List.set_cons_zero, List.set_cons_succ]
      refine wpAnyH_done (by kernel_rfl) ?_ _
      gi_wp2
      refine ⟨(KeepsOthers.drew W).trans R2'.out, (KeepB.drew (KeepB.refl _ W)).trans R3'.out, ⟨⟨_, R4'.out, ?_⟩, ?_⟩, ?_⟩
      · rw [HNX.out]
        show World.ownsRow _ _ _ _ _ _ _
        rw [flatR_snoc, List.length_append, HOL.out, List.length_singleton]
        exact R5'.out
      · exact R3'.out.2 _ _ _ (.inr rfl) HNN.out
      · exact HBB.out.trans (KeepB.drew (KeepB.refl _ W)).1 |>.trans R3'.out.1
    · go_simp
      refine hK.out _ _ ?_ (fun hHeld => ?_)
      · exact Below.refl _ _
      clear hK K
      try simp only [List.getElem_toArray, List.getElem_cons_succ, List.getElem_cons_zero, Act.put, List.setIfInBounds_toArray, List.set_cons_zero, List.set_cons_succ]
      refine wpAnyH_take (i := 4) (v := ?_) rfl (by kernel_rfl) (by kernel_rfl) (by kernel_rfl) (fun _ _ _ h => h) (Or.inl ⟨by rfl, ?_⟩) hHeld ?_
      rotate_left
      · intro w' hSw; go_simp; try with_reducible rfl
      simp only [List.getElem_toArray, List.getElem_cons_succ, List.getElem_cons_zero, Act.put, List.setIfInBounds_toArray, List.set_cons_zero, List.set_cons_succ]
      refine wpAnyH_ready (rs := [0, 7]) (by kernel_rfl) (by simp) ?_
      refine AllReadyH.cons rfl (fun K hK => ?_) (AllReadyH.cons rfl (fun K hK => ?_) AllReadyH.nil)
      · go_simp
        refine hK.out _ _ ?_ (fun hHeld => ?_)
        · exact Below.refl _ _
        clear hK K
        try simp only [List.getElem_toArray, List.getElem_cons_succ, List.getElem_cons_zero, Act.put, List.setIfInBounds_toArray, List.set_cons_zero, List.set_cons_succ]
        refine wpAnyH_ready (rs := [7]) (by kernel_rfl) (by simp) ?_
        refine AllReadyH.cons rfl (fun K hK => ?_) AllReadyH.nil
        go_simp
        refine HF.out.mono ?_
        rintro e wA ⟨rfl, bA⟩
        have BA : Hid (Below W.drew.heap.size W.drew wA) := Lib.hid bA
        have hcA : wA.cell? ⟨w1.heap.size + 1, 0, none⟩ = some (.slice A9 pre.length c9) := (bA.cell (p := ⟨w1.heap.size + 1, 0, none⟩) (heap_lt HO.out)).trans hcO
        clear bA
        try go_wp2_with fail
        refine hK.out _ _ ?_ (fun hHeld => ?_)
        · exact BA.out.mono (by have := HSZ.out; show _ ≤ W.heap.size; omega)
        clear hK K
        try simp only [List.getElem_toArray, List.getElem_cons_succ, List.getElem_cons_zero, Act.put, List.setIfInBounds_toArray, List.set_cons_zero, List.set_cons_succ]
        refine wpAnyH_ready (rs := [8]) (by kernel_rfl) (by simp) ?_
        refine AllReadyH.cons rfl (fun K hK => ?_) AllReadyH.nil
        rw [if_pos (by rfl)]
        refine wp_build_arr (.tmp 24) rfl rfl HSL.out ?_
        refine hK.out _ _ ?_ (fun hHeld => ?_)
        · exact (BA.out.mono (by have := HSZ.out; show _ ≤ W.heap.size; omega)).alloc (by have := HSZ.out; have : W.heap.size ≤ wA.heap.size := BA.out.size; omega) _
        clear hK K
        try simp only [List.getElem_toArray, List.getElem_cons_succ, List.getElem_cons_zero, Act.put, List.setIfInBounds_toArray, List.set_cons_zero, List.set_cons_succ]
        refine wpAnyH_ready (rs := [9]) (by kernel_rfl) (by simp) ?_
        refine AllReadyH.cons rfl (fun K hK => ?_) AllReadyH.nil
        rw [if_pos (by rfl)]
        refine wp_append_big (.tmp 17) (.tmp 25) _ rfl Try.underlying75 I91.out I92.out (by simp [Value.cells]) I93.out (by decide) I94.out (by decide) rfl ((owns_below HR.out BA.out).alloc _) (m := 1) rfl (news := sec.map u8) (by rw [List.length_map, HSL.out]) (fun j u' hj => by rw [World.cell?_alloc_new]; simpa [rowB] using hj) (u8s_oneCell sec) (by have := HPL.out; omega) (by have := BA.out.size; have := HSZ.out; have : W.heap.size ≤ wA.heap.size := BA.out.size; simp; omega) ?_
        intro v5 w5 hown5 hgrow5
        obtain ⟨A5, c5, rfl⟩ := own_sliceN hown5
        obtain ⟨r1, r2, r3, r4, r5⟩ := arr_round (B := w1.heap.size) HSZ.out.1 (Nat.le_succ _) HO.out HR.out HSZ.out.2 BA.out hgrow5 hown5
        have hS5 : Below (w1.heap.size + 1) W.drew w5 := ((((BA.out.mono (by have := HSZ.out; show _ ≤ W.heap.size; omega)).alloc (by have := HSZ.out; have : W.heap.size ≤ wA.heap.size := BA.out.size; omega) _).grown hgrow5 (by have := HSZ.out; have : W.heap.size ≤ wA.heap.size := BA.out.size; simp; omega) (fun k hk => by have := own_ge HR.out k hk; have := HSZ.out; omega)))
        have R2' := Lib.hid r2
        have R3' := Lib.hid r3
        have R4' := Lib.hid r4
        have R5' := Lib.hid r5
        have S5 := Lib.hid hS5
        have m0 := cell_of_row w5 (w1.heap.size + 1) 0 _ _ _ r1
        have m1 := frozen_of_row w5 (w1.heap.size + 1) 0 _ _ r1
        clear hown5 hgrow5 r1 r2 r3 r4 r5 hS5
        refine hK.out _ _ ?_ (fun hHeld => ?_)
        · exact S5.out
        clear hK K
        try simp only [List.getElem_toArray, List.getElem_cons_succ, List.getElem_cons_zero, Act.put, List.setIfInBounds_toArray, List.set_cons_zero, List.set_cons_succ]
        refine wpAnyH_ready (rs := [10]) (by kernel_rfl) (by simp) ?_
        refine AllReadyH.cons rfl (fun K hK => ?_) AllReadyH.nil
        go_simp
        refine hK.out _ _ ?_ (fun hHeld => ?_)
        · exact S5.out.setCell (p := ⟨w1.heap.size + 1, 0, none⟩) (Nat.le_refl _) _
        clear hK K
        try simp only [List.getElem_toArray, List.getElem_cons_succ, List.getElem_cons_zero, Act.put, List.setIfInBounds_toArray, List.set_cons_zero, List.set_cons_succ]
        refine wpAnyH_done (by kernel_rfl) ?_ _
        gi_wp2
        refine ⟨(KeepsOthers.drew W).trans R2'.out, (KeepB.drew (KeepB.refl _ W)).trans R3'.out, ⟨⟨_, R4'.out, ?_⟩, ?_⟩, ?_⟩
        · rw [HNX.out]
          show World.ownsRow _ _ _ _ _ _ _
          rw [flatR_snoc, List.length_append, HOL.out, List.length_singleton]
          exact R5'.out
        · exact R3'.out.2 _ _ _ (.inr rfl) HNN.out
        · exact HBB.out.trans (KeepB.drew (KeepB.refl _ W)).1 |>.trans R3'.out.1
      · go_simp
        refine HF.out.mono ?_
        rintro e wA ⟨rfl, bA⟩
        have BA : Hid (Below W.drew.heap.size W.drew wA) := Lib.hid bA
        have hcA : wA.cell? ⟨w1.heap.size + 1, 0, none⟩ = some (.slice A9 pre.length c9) := (bA.cell (p := ⟨w1.heap.size + 1, 0, none⟩) (heap_lt HO.out)).trans hcO
        clear bA
        try go_wp2_with fail
        refine hK.out _ _ ?_ (fun hHeld => ?_)
        · exact BA.out.mono (by have := HSZ.out; show _ ≤ W.heap.size; omega)
        clear hK K
        try simp only [List.getElem_toArray, List.getElem_cons_succ, List.getElem_cons_zero, Act.put, List.setIfInBounds_toArray, List.set_cons_zero, List.set_cons_succ]
        refine wpAnyH_ready (rs := [0, 8]) (by kernel_rfl) (by simp) ?_
        refine AllReadyH.cons rfl (fun K hK => ?_) (AllReadyH.cons rfl (fun K hK => ?_) AllReadyH.nil)
        · go_simp
          refine hK.out _ _ ?_ (fun hHeld => ?_)
          · exact BA.out.mono (by have := HSZ.out; show _ ≤ W.heap.size; omega)
          clear hK K
          try simp only [List.getElem_toArray, List.getElem_cons_succ, List.getElem_cons_zero, Act.put, List.setIfInBounds_toArray, List.set_cons_zero, List.set_cons_succ]
          refine wpAnyH_ready (rs := [8]) (by kernel_rfl) (by simp) ?_
          refine AllReadyH.cons rfl (fun K hK => ?_) AllReadyH.nil
          rw [if_pos (by rfl)]
          refine wp_build_arr (.tmp 24) rfl rfl HSL.out ?_
          refine hK.out _ _ ?_ (fun hHeld => ?_)
          · exact (BA.out.mono (by have := HSZ.out; show _ ≤ W.heap.size; omega)).alloc (by have := HSZ.out; have : W.heap.size ≤ wA.heap.size := BA.out.size; omega) _
          clear hK K
          try simp only [List.getElem_toArray, List.getElem_cons_succ, List.getElem_cons_zero, Act.put, List.setIfInBounds_toArray, List.set_cons_zero, List.set_cons_succ]
          refine wpAnyH_ready (rs := [9]) (by kernel_rfl) (by simp) ?_
          refine AllReadyH.cons rfl (fun K hK => ?_) AllReadyH.nil
          rw [if_pos (by rfl)]
          refine wp_append_big (.tmp 17) (.tmp 25) _ rfl Try.underlying75 I91.out I92.out (by simp [Value.cells]) I93.out (by decide) I94.out (by decide) rfl ((owns_below HR.out BA.out).alloc _) (m := 1) rfl (news := sec.map u8) (by rw [List.length_map, HSL.out]) (fun j u' hj => by rw [World.cell?_alloc_new]; simpa [rowB] using hj) (u8s_oneCell sec) (by have := HPL.out; omega) (by have := BA.out.size; have := HSZ.out; have : W.heap.size ≤ wA.heap.size := BA.out.size; simp; omega) ?_
          intro v5 w5 hown5 hgrow5
          obtain ⟨A5, c5, rfl⟩ := own_sliceN hown5
          obtain ⟨r1, r2, r3, r4, r5⟩ := arr_round (B := w1.heap.size) HSZ.out.1 (Nat.le_succ _) HO.out HR.out HSZ.out.2 BA.out hgrow5 hown5
          have hS5 : Below (w1.heap.size + 1) W.drew w5 := ((((BA.out.mono (by have := HSZ.out; show _ ≤ W.heap.size; omega)).alloc (by have := HSZ.out; have : W.heap.size ≤ wA.heap.size := BA.out.size; omega) _).grown hgrow5 (by have := HSZ.out; have : W.heap.size ≤ wA.heap.size := BA.out.size; simp; omega) (fun k hk => by have := own_ge HR.out k hk; have := HSZ.out; omega)))
          have R2' := Lib.hid r2
          have R3' := Lib.hid r3
          have R4' := Lib.hid r4
          have R5' := Lib.hid r5
          have S5 := Lib.hid hS5
          have m0 := cell_of_row w5 (w1.heap.size + 1) 0 _ _ _ r1
          have m1 := frozen_of_row w5 (w1.heap.size + 1) 0 _ _ r1
          clear hown5 hgrow5 r1 r2 r3 r4 r5 hS5
          refine hK.out _ _ ?_ (fun hHeld => ?_)
          · exact S5.out
          clear hK K
          try simp only [List.getElem_toArray, List.getElem_cons_succ, List.getElem_cons_zero, Act.put, List.setIfInBounds_toArray, List.set_cons_zero, List.set_cons_succ]
          refine wpAnyH_ready (rs := [10]) (by kernel_rfl) (by simp) ?_
          refine AllReadyH.cons rfl (fun K hK => ?_) AllReadyH.nil
          go_simp
          refine hK.out _ _ ?_ (fun hHeld => ?_)
          · exact S5.out.setCell (p := ⟨w1.heap.size + 1, 0, none⟩) (Nat.le_refl _) _
          clear hK K
          try simp only [List.getElem_toArray, List.getElem_cons_succ, List.getElem_cons_zero, Act.put, List.setIfInBounds_toArray, List.set_cons_zero, List.set_cons_succ]
          refine wpAnyH_done (by kernel_rfl) ?_ _
          gi_wp2
          refine ⟨(KeepsOthers.drew W).trans R2'.out, (KeepB.drew (KeepB.refl _ W)).trans R3'.out, ⟨⟨_, R4'.out, ?_⟩, ?_⟩, ?_⟩
          · rw [HNX.out]
            show World.ownsRow _ _ _ _ _ _ _
            rw [flatR_snoc, List.length_append, HOL.out, List.length_singleton]
            exact R5'.out
          · exact R3'.out.2 _ _ _ (.inr rfl) HNN.out
          · exact HBB.out.trans (KeepB.drew (KeepB.refl _ W)).1 |>.trans R3'.out.1
        · rw [if_pos (by rfl)]
          refine wp_build_arr (.tmp 24) rfl rfl HSL.out ?_
          refine hK.out _ _ ?_ (fun hHeld => ?_)
          · exact (BA.out.mono (by have := HSZ.out; show _ ≤ W.heap.size; omega)).alloc (by have := HSZ.out; have : W.heap.size ≤ wA.heap.size := BA.out.size; omega) _
          clear hK K
          try simp only [List.getElem_toArray, List.getElem_cons_succ, List.getElem_cons_zero, Act.put, List.setIfInBounds_toArray, List.set_cons_zero, List.set_cons_succ]
          have hcB : (wA.alloc (.cells (rowB sec) 77)).cell? ⟨w1.heap.size + 1, 0, none⟩ = some (.slice A9 pre.length c9) := ((below_new wA _).cell (p := ⟨w1.heap.size + 1, 0, none⟩) (cell_lt hcA)).trans hcA
          refine wpAnyH_ready (rs := [0]) (by kernel_rfl) (by simp) ?_
          refine AllReadyH.cons rfl (fun K hK => ?_) AllReadyH.nil
          go_simp
          refine hK.out _ _ ?_ (fun hHeld => ?_)
          · exact (BA.out.mono (by have := HSZ.out; show _ ≤ W.heap.size; omega)).alloc (by have := HSZ.out; have : W.heap.size ≤ wA.heap.size := BA.out.size; omega) _
          clear hK K
          try simp only [List.getElem_toArray, List.getElem_cons_succ, List.getElem_cons_zero, Act.put, List.setIfInBounds_toArray, List.set_cons_zero, List.set_cons_succ]
          refine wpAnyH_ready (rs := [9]) (by kernel_rfl) (by simp) ?_
          refine AllReadyH.cons rfl (fun K hK => ?_) AllReadyH.nil
          rw [if_pos (by rfl)]
          refine wp_append_big (.tmp 17) (.tmp 25) _ rfl Try.underlying75 I91.out I92.out (by simp [Value.cells]) I93.out (by decide) I94.out (by decide) rfl ((owns_below HR.out BA.out).alloc _) (m := 1) rfl (news := sec.map u8) (by rw [List.length_map, HSL.out]) (fun j u' hj => by rw [World.cell?_alloc_new]; simpa [rowB] using hj) (u8s_oneCell sec) (by have := HPL.out; omega) (by have := BA.out.size; have := HSZ.out; have : W.heap.size ≤ wA.heap.size := BA.out.size; simp; omega) ?_
          intro v5 w5 hown5 hgrow5
          obtain ⟨A5, c5, rfl⟩ := own_sliceN hown5
          obtain ⟨r1, r2, r3, r4, r5⟩ := arr_round (B := w1.heap.size) HSZ.out.1 (Nat.le_succ _) HO.out HR.out HSZ.out.2 BA.out hgrow5 hown5
          have hS5 : Below (w1.heap.size + 1) W.drew w5 := ((((BA.out.mono (by have := HSZ.out; show _ ≤ W.heap.size; omega)).alloc (by have := HSZ.out; have : W.heap.size ≤ wA.heap.size := BA.out.size; omega) _).grown hgrow5 (by have := HSZ.out; have : W.heap.size ≤ wA.heap.size := BA.out.size; simp; omega) (fun k hk => by have := own_ge HR.out k hk; have := HSZ.out; omega)))
          have R2' := Lib.hid r2
          have R3' := Lib.hid r3
          have R4' := Lib.hid r4
          have R5' := Lib.hid r5
          have S5 := Lib.hid hS5
          have m0 := cell_of_row w5 (w1.heap.size + 1) 0 _ _ _ r1
          have m1 := frozen_of_row w5 (w1.heap.size + 1) 0 _ _ r1
          clear hown5 hgrow5 r1 r2 r3 r4 r5 hS5
          refine hK.out _ _ ?_ (fun hHeld => ?_)
          · exact S5.out
          clear hK K
          try simp only [List.getElem_toArray, List.getElem_cons_succ, List.getElem_cons_zero, Act.put, List.setIfInBounds_toArray, List.set_cons_zero, List.set_cons_succ]
          refine wpAnyH_ready (rs := [10]) (by kernel_rfl) (by simp) ?_
          refine AllReadyH.cons rfl (fun K hK => ?_) AllReadyH.nil
          go_simp
          refine hK.out _ _ ?_ (fun hHeld => ?_)
          · exact S5.out.setCell (p := ⟨w1.heap.size + 1, 0, none⟩) (Nat.le_refl _) _
          clear hK K
          try simp only [List.getElem_toArray, List.getElem_cons_succ, List.getElem_cons_zero, Act.put, List.setIfInBounds_toArray, List.set_cons_zero, List.set_cons_succ]
          refine wpAnyH_done (by kernel_rfl) ?_ _
          gi_wp2
          refine ⟨(KeepsOthers.drew W).trans R2'.out, (KeepB.drew (KeepB.refl _ W)).trans R3'.out, ⟨⟨_, R4'.out, ?_⟩, ?_⟩, ?_⟩
          · rw [HNX.out]
            show World.ownsRow _ _ _ _ _ _ _
            rw [flatR_snoc, List.length_append, HOL.out, List.length_singleton]
            exact R5'.out
          · exact R3'.out.2 _ _ _ (.inr rfl) HNN.out
          · exact HBB.out.trans (KeepB.drew (KeepB.refl _ W)).1 |>.trans R3'.out.1
  case done =>
    rintro D xs' W hD hS ⟨⟨⟨v, ho, hr⟩, hn⟩, hB⟩ hK
    rw [hS, outI_range] at hr
    have hc := ho.cell
    gi_wp2
    refine ⟨by simp, .inl ⟨_, _, rfl, run_takeDeferred hK, ?_⟩⟩
    refine ⟨_, results_tmp rfl _ _ _, _, rfl, ?_, ?_⟩
    · have h := ArrsAt.turned hr (grownBy_putObj' W D (.deferred none)) (fun r e => by cases e; exact ⟨_, hK, rfl⟩)
      have he : secsR g t = (List.range (cntB b)).map (fun i => secP g i n (pieceB b i)) := by
        rw [secsR, ← cntB_body g t, ← HB.out]
        simp only [HN.out]
        rfl
      rw [he]
      exact owns_mono h (by have := LW.out; omega)
    · exact B2.out.trans ((hB.mono (by have := LW.out; omega)).trans ((Below.refl _ _).grown (grownBy_putObj' W D (.deferred none)) (Nat.le_trans B2.out.size hB.size) (fun k hk => by cases hk; have := LW.out; omega)))
  case stop =>
    rintro D c pre W _ _ h _
    exact h.elim
end Go.Proofs.Ytdjoflhcagfmiaa

/-
  The record that is whole in a slot, as the program finds it.
  Conditions: thirty-two sectors of 128 bytes each; the slot's first sector is 0 or 16.
-/
set_option linter.unusedVariables false
set_option linter.unusedSimpArgs false
set_option maxRecDepth 100000
namespace Go.Proofs.Ytdjoflhcagfmiaa
open Go.RowKit

theorem sslot_any (g : Nat) (w : World) : Calls Try.prog 14 #[.int .u32 g] w fun e w' => e = .returned (.int .i64 (slotN g : Nat)) ∧ w = w' := by
  have h : ((g : Int) % 2 * 16) = ((slotN g : Nat) : Int) := by rw [slotN]; omega
  have h2 : (g : Int) % 2 < 2 := by omega
  have h3 : (0 : Int) ≤ (g : Int) % 2 := by omega
  have H := Lib.hid h
  clear h

  go_enter Try.func14, Try.ntmps14
  go_wp2_with fail
  rw [H.out]
  go_ret
  exact ⟨rfl, rfl⟩

theorem SecsIn.mid {W : World} {B n : Nat} {A : Option Addr} {cap : Nat} {V : List Bs} (h : SecsIn W B (.slice A n cap) V) {k m : Nat} (hm : 0 < m) (hk : k + m ≤ V.length) :
    ∃ b off, A = some ⟨b, off, none⟩ ∧ V.length ≤ cap ∧ cap ≤ maxLen ∧ SecsIn W B (.slice (some ⟨b, off + k, none⟩) m (cap - k)) ((V.drop k).take m) := by
  obtain ⟨A', cap', e, h1, h2, hn, h3⟩ := h
  cases e
  obtain ⟨b, off, rfl, hb, hc⟩ := h3 (by omega)
  have hl : ((V.drop k).take m).length = m := by rw [List.length_take, List.length_drop]; omega
  refine ⟨b, off, rfl, h1, h2, _, _, by rw [hl], by rw [hl]; omega, by omega, fun e => (by cases e), fun _ => ⟨b, off + k, rfl, hb, fun j hj => ?_⟩⟩
  rw [hl] at hj
  obtain ⟨u, hu, ht⟩ := hc (k + j) (by omega)
  refine ⟨u, by rw [Nat.add_assoc]; exact hu, ?_⟩
  have : ((V.drop k).take m)[j]'(by rw [hl]; exact hj) = V[k + j]'(by omega) := by simp
  rw [this]
  exact ht
/-- One array of a row. -/
theorem flatR_at : ∀ (ls : List Bs) (i j : Nat) (hi : i < ls.length), (∀ s ∈ ls, s.length = 128) → j < 128 → (flatR ls)[i * 128 + j]? = ((ls[i]).map u8)[j]?
  | l :: ls, 0, j, hi, h, hj => by
    have hl : (l.map u8).length = 128 := by rw [List.length_map]; exact h l (by simp)
    show ((l.map u8) ++ flatR ls)[0 * 128 + j]? = _
    rw [List.getElem?_append_left (by omega), Nat.zero_mul, Nat.zero_add]; rfl
  | l :: ls, i + 1, j, hi, h, hj => by
    have hl : (l.map u8).length = 128 := by rw [List.length_map]; exact h l (by simp)
    show ((l.map u8) ++ flatR ls)[(i + 1) * 128 + j]? = _
    rw [List.getElem?_append_right (by omega), hl, show (i + 1) * 128 + j - 128 = i * 128 + j from by omega]
    exact flatR_at ls i j (by simpa using hi) (fun s hs => h s (by simp [hs])) hj
theorem ArrsAt.at {W : World} {lo n c : Nat} {A : Option Addr} {ls : List Bs} (h : ArrsAt W lo (.slice A n c) ls) (h128 : ∀ s ∈ ls, s.length = 128) {i : Nat} (hi : i < ls.length) :
    ∃ b, A = some ⟨b, 0, none⟩ ∧ lo ≤ b ∧ ∀ j v, ((ls[i]).map u8)[j]? = some v → W.cell? ⟨b, i * 128 + j, none⟩ = some v := by
  have h' : W.ownsRow lo 77 128 (.slice A n c) ls.length (flatR ls) := h
  rcases h'.2 with ⟨h1, h2⟩ | ⟨b, cap, cur, e, hlo, hgb, hcap, hmx, hsz, htk⟩
  · omega
  cases e
  refine ⟨b, rfl, hlo, fun j v hj => ?_⟩
  have hj1 : j < 128 := by
    obtain ⟨hlt, _⟩ := List.getElem?_eq_some_iff.1 hj
    rw [List.length_map, h128 _ (List.getElem_mem hi)] at hlt
    exact hlt
  rw [h'.cellAt (i * 128 + j) (by have : i * 128 + 128 ≤ ls.length * 128 := by omega
                                  omega), flatR_at ls i j hi h128 hj1]
  exact hj

theorem wpList_load_arr {ops : Array Oper} {rest : List Oper} {op : Oper} {a : Act} {w : World} {Q : Exit → Act → World → Prop} (hgd : op.guard = none) (x : Operand) (ho : op.op = .load 77 x)
    (b o : Nat) (hx : a.eval x = .pointer (some ⟨b, o, none⟩)) {l : Bs} (hl : l.length = 128) (hc : ∀ j v, (l.map u8)[j]? = some v → w.cell? ⟨b, o + j, none⟩ = some v)
    (h : wpList Try.prog ops Q rest (a.put op.dst (.agg (rowB l))) w) : wpList Try.prog ops Q (op :: rest) a w :=
  wpList_load_mid hgd 77 x ho b o hx (l.map u8) (.array 128 5) hc Try.underlying77 rfl (by rw [List.length_map, hl]; exact zero128.2) h
theorem taken_ne {g : Nat} {t : Bs} {S : List Bs} {i : Nat} (hi : i < cntR t) (hS : i < S.length) (h : secR g (bodyR g t) i ≠ S[i]) : secsR g t ≠ S.take (cntR t) := fun e => by
  have h1 := congrArg (fun l : List Bs => l[i]?) e
  simp only [secsR_at hi, List.getElem?_take_of_lt hi, List.getElem?_eq_getElem hS] at h1
  exact h (Option.some.inj h1)
theorem taken_eq {g : Nat} {t : Bs} {S : List Bs} (hS : cntR t ≤ S.length) (h : ∀ i, i < cntR t → (secsR g t)[i]? = S[i]?) : secsR g t = S.take (cntR t) := by
  apply List.ext_getElem?
  intro i
  by_cases hi : i < cntR t
  · rw [h i hi, List.getElem?_take_of_lt hi]
  · rw [List.getElem?_eq_none (by rw [secsR_length]; omega), List.getElem?_eq_none (by rw [List.length_take]; omega)]

set_option maxHeartbeats 4000000 in
theorem swhole_any (v : Value) (V : List Bs) (k : Nat) (hk : k = 0 ∨ k = 16) (w : World) (h : SecsIn w w.heap.size v V) (hl : V.length = 32) (h128 : ∀ s ∈ V, s.length = 128) :
    Calls Try.prog 32 #[v, .int .i64 (k : Int)] w fun e w' => ToldSaid w' w.heap.size (wholeR ((V.drop k).take 16) k) e ∧ Below w.heap.size w w' := by
  have H := Lib.hid h
  obtain ⟨A, cap, rfl, -, -, -, -⟩ := h
  have HL := Lib.hid hl
  rw [hl] at H ⊢
  obtain ⟨b, off, rfl, hcap, hmx, hsub⟩ := H.out.mid (k := k) (m := 16) (by omega) (by rw [hl]; omega)
  rw [hl] at hcap
  obtain ⟨S, hS⟩ : ∃ S, S = (V.drop k).take 16 := ⟨_, rfl⟩
  rw [← hS] at hsub ⊢
  have hSl : S.length = 16 := by rw [hS, List.length_take, List.length_drop]; omega
  have hS128 : ∀ s ∈ S, s.length = 128 := fun s hs => h128 s (by rw [hS] at hs; exact List.mem_of_mem_drop (List.mem_of_mem_take hs))
  have SU := Lib.hid hsub
  have SL := Lib.hid hSl
  have S128 := Lib.hid hS128
  have hk1 : (k : Int) + 16 ≤ cap := by omega
  have hk2 : (0 : Int) ≤ k := by omega
  have hk3 : k ≤ 16 := by omega
  have hk4 : ¬ cap = k := by omega
  have HK := Lib.hid hk
  have HSE := Lib.hid hS
  clear H hl h128 hS hsub hSl hS128 hk
  go_enter Try.func32, Try.ntmps32
  go_wp2_with fail
  simp only [Nat.add_sub_cancel_left]
  have hq1 := heap_alloc_self w (.cells #[.int .u32 0, .slice none 0 0] 36)
  have hqb := below_new w (.cells #[.int .u32 0, .slice none 0 0] 36)
  generalize w.alloc (.cells #[.int .u32 0, .slice none 0 0] 36) = q at hq1 hqb ⊢
  refine (stold_any _ S q ((SU.out.below hqb).more hqb.size) SL.out S128.out).mono ?_
  rintro e w1 ⟨hsaid, b1⟩
  have C1 := Lib.hid ((b1.block _ (heap_lt hq1)).trans hq1)
  have B1 := Lib.hid (hqb.trans (b1.mono hqb.size))
  have LQ : Hid (w.heap.size < q.heap.size ∧ q.heap.size ≤ w1.heap.size) := Lib.hid ⟨heap_lt hq1, b1.size⟩
  clear hq1 hqb b1
  have NONE : Hid (∀ (u : World) (c0 c1 : Value), u.heap[w.heap.size]? = some (.cells #[c0, c1] 36 (0, 0)) → wholeR S k = none → ToldSaid ((u.setCell ⟨w.heap.size, 0, none⟩ (.int .u32 0)).setCell ⟨w.heap.size, 1, none⟩ (.slice none 0 0)) w.heap.size (wholeR S k) (.returned (.tuple #[.agg #[.int .u32 0, .slice none 0 0], .bool false]))) := Lib.hid (fun u c0 c1 _ h => by rw [h]; exact rfl)
  cases hT : toldR S with
  | none =>
    rw [hT] at hsaid
    obtain rfl : e = _ := hsaid
    have hW : wholeR S k = none := by rw [wholeR, hT]
    have HW := Lib.hid hW
    clear hT hW
    have hz0 : (w1.alloc (.cells #[.int .u32 0, .slice none 0 0] 36)).heap[w.heap.size]? = _ := ((below_new w1 _).block _ (heap_lt C1.out)).trans C1.out
    have hzb : Below w.heap.size w (w1.alloc (.cells #[.int .u32 0, .slice none 0 0] 36)) := B1.out.alloc B1.out.size _
    have Z0 := Lib.hid hz0
    have ZB := Lib.hid hzb
    obtain ⟨r0, r1⟩ := cell2_of hz0
    have f0 := frozen2_of hz0 0
    have f1 := frozen2_of hz0 1
    clear hz0 hzb
    go_wp2_with fail
    refine bodyPost_ret (results_2_tmp rfl _ _ w.heap.size rfl (heap_set2 Z0.out _ _) Try.underlying36 infoRec2 (.bool false) rfl) rfl ⟨NONE.out _ _ _ Z0.out HW.out, below_set2 ZB.out (Nat.le_refl _) _ _⟩
  | some r =>
    obtain ⟨g, t⟩ := r
    rw [hT] at hsaid
    obtain ⟨u, rfl, ho⟩ := hsaid
    have hok := told_ok SL.out S128.out hT
    have HOK := Lib.hid hok
    have HO := Lib.hid ho
    have HTX := Lib.hid ho.txt
    have hW : wholeR S k = if slotN g = k ∧ secsR g t = S.take (cntR t) then some (g, t) else none := by rw [wholeR, hT]
    have HW := Lib.hid hW
    obtain ⟨tb, toff, tcap, tcs, rfl, -⟩ := ho
    clear hT hW hok
    have hz1 := heap_alloc_self w1 (.cells #[.int .u32 (g : Int), .slice (some ⟨tb, toff, none⟩) t.length tcap] 36)
    have hq0 : (w1.alloc (.cells #[.int .u32 (g : Int), .slice (some ⟨tb, toff, none⟩) t.length tcap] 36)).heap[w.heap.size]? = _ := ((below_new w1 _).block _ (heap_lt C1.out)).trans C1.out
    have hqb : Below w1.heap.size w1 (w1.alloc (.cells #[.int .u32 (g : Int), .slice (some ⟨tb, toff, none⟩) t.length tcap] 36)) := below_new w1 _
    go_wp2_with fail
    generalize w1.alloc (.cells #[.int .u32 (g : Int), .slice (some ⟨tb, toff, none⟩) t.length tcap] 36) = q2 at hz1 hq0 hqb ⊢
    refine (sslot_any g q2).mono ?_
    rintro e w2 ⟨rfl, rfl⟩
    have Z1 := Lib.hid hz1
    have Q0 := Lib.hid hq0
    have QB := Lib.hid (B1.out.trans (hqb.mono B1.out.size))
    have HO2 := Lib.hid (HO.out.below hqb)
    have HT2 := Lib.hid ((HTX.out.below hqb).more hqb.size)
    have SU2 := Lib.hid ((SU.out.below QB.out).more QB.out.size)
    have LW2 : Hid (w1.heap.size < q2.heap.size) := Lib.hid (heap_lt hz1)
    obtain ⟨c0, c1⟩ := cell2_of hz1
    obtain ⟨r0, r1⟩ := cell2_of hq0
    have f0 := frozen2_of hq0 0
    have f1 := frozen2_of hq0 1
    clear hz1 hq0 hqb
    by_cases hs : slotN g = k
    · have hsI : ((slotN g : Nat) : Int) = k := by omega
      go_wp2_with fail
      refine (sectors_any g t _ q2 HOK.out.2.1 HOK.out.2.2 HT2.out).mono ?_
      rintro e w3 ⟨y3, rfl, ha, b3⟩
      obtain ⟨n, hn⟩ : ∃ n, n = cntR t := ⟨_, rfl⟩
      have hlen : (secsR g t).length = n := by rw [secsR_length, hn]
      obtain ⟨A3, c3, rfl⟩ := own_sliceN (show w3.ownsRow _ _ _ _ (secsR g t).length _ from ha)
      obtain ⟨ls, hls⟩ : ∃ ls, ls = secsR g t := ⟨_, rfl⟩
      rw [← hls] at ha hlen ⊢
      rw [hlen]
      have hl128 : ∀ s ∈ ls, s.length = 128 := fun s hs => by rw [hls] at hs; exact secsR_128 hs
      have hn16 : n ≤ 16 := by rw [hn]; exact cntR_le HOK.out.2.2
      have HN := Lib.hid hn
      have HLS := Lib.hid hls
      have HLEN := Lib.hid hlen
      have HL128 := Lib.hid hl128
      have HA := Lib.hid ha
      have B3 := Lib.hid (QB.out.trans (b3.mono QB.out.size))
      have SU3 := Lib.hid (SU2.out.below b3)
      have Z3 := Lib.hid ((b3.block _ (heap_lt Z1.out)).trans Z1.out)
      have C3 := Lib.hid ((b3.block _ (heap_lt Q0.out)).trans Q0.out)
      have O3 := Lib.hid (HO2.out.below b3)
      have LW3 : Hid (q2.heap.size ≤ w3.heap.size) := Lib.hid b3.size
      have HSL := Lib.hid hs
      clear c0 c1 r0 r1 f0 f1 hn hls hlen hl128 ha b3 hs hsI
      go_wp2_with fail
      go_loopw [34] (fun s34 wr => ∃ i : Nat, i ≤ n ∧ s34 = .int .i64 i ∧ (∀ j, j < i → ls[j]? = S[j]?) ∧ Below w3.heap.size w3 wr) (fun s34 _ => n - (intOf s34).toNat)
      case atStart => exact ⟨0, Nat.zero_le _, rfl, fun j hj => by omega, Below.refl _ _⟩
      case round =>
        obtain ⟨i, hi, rfl, heq, hb⟩ := hrel
        have HEQ := Lib.hid heq
        have HB := Lib.hid hb
        clear heq hb
        by_cases hlt : i < n
        · have hlt' : (i : Int) < n := by omega
          have hil : i < ls.length := by rw [HLEN.out]; exact hlt
          have hiS : i < S.length := by rw [SL.out]; omega
          obtain ⟨ab, rfl, hab, hcells⟩ := HA.out.at HL128.out hil
          have hsec : ls[i].length = 128 := HL128.out _ (List.getElem_mem hil)
          have hcw : ∀ j v, (ls[i].map u8)[j]? = some v → wr.cell? ⟨ab, i * 128 + j, none⟩ = some v := fun j v hj => (HB.out.cell (p := ⟨ab, i * 128 + j, none⟩) (cell_lt (hcells j v hj))).trans (hcells j v hj)
          obtain ⟨sb, so, u6, e6, hsb, hcu, htu⟩ := SU3.out.at hiS
          cases e6
          have hs128 : S[i].length = 128 := S128.out _ (List.getElem_mem hiS)
          have HCU := Lib.hid ((HB.out.cell (p := ⟨b, _, none⟩) (cell_lt hcu)).trans hcu)
          have HTU := Lib.hid (htu.more LW3.out)
          have hstep : ls[i] = S[i] → ∀ j, j < i + 1 → ls[j]? = S[j]? := fun e j hj => by
            rcases Nat.lt_or_ge j i with h | h
            · exact HEQ.out j h
            · obtain rfl : j = i := by omega
              rw [List.getElem?_eq_getElem hil, List.getElem?_eq_getElem hiS, e]
          have hdiff : ls[i] ≠ S[i] → wholeR S k = none := fun e => by
            rw [HW.out, if_neg]
            rintro ⟨_, h⟩
            have h1 := congrArg (fun l : List Bs => l[i]?) h
            have hlt2 : i < cntR t := by rw [← HN.out]; exact hlt
            simp only [List.getElem?_take_of_lt hlt2, List.getElem?_eq_getElem hiS] at h1
            rw [← HLS.out, List.getElem?_eq_getElem hil] at h1
            exact e (Option.some.inj h1)
          have HST := Lib.hid hstep
          have HDF := Lib.hid hdiff
          generalize ls[i] = sec at hsec hcw HST HDF
          have HSEC := Lib.hid hsec
          have HCW := Lib.hid hcw
          generalize S[i] = sc at hs128 HST HDF HTU htu
          obtain ⟨A6, c6, rfl, -, -, -, -⟩ := htu
          rw [hs128] at HCU HTU
          clear hstep hdiff hcells hsec hcw hcu hil hiS
          have hz128 := zero128.1
          go_wp2_with (first
            | ((with_reducible show wpList _ _ _ (⟨some 38, _, _, _, _, _⟩ :: _) _ _); refine wpList_load_arr rfl _ rfl ab (i * 128) rfl HSEC.out HCW.out ?_)
            | ((with_reducible show wpList _ _ _ (⟨none, _, _, _, _, _⟩ :: _) _ _); refine wpList_store_row rfl 77 _ _ rfl wr.heap.size rfl rfl (heap_alloc_self _ _) (by rw [rowB_size, HSEC.out]; exact zero128.2) (by rw [rowB_size, HSEC.out]; simp) (rowB_one sec) ?_))
          clear hz128
          rw [World.setRow_alloc_new]
          have hv1 := heap_alloc_self wr (.cells (rowB sec) 77)
          have hvb := below_new wr (.cells (rowB sec) 77)
          change Code.wp _ _ _ _ (wr.alloc (.cells (rowB sec) 77))
          generalize wr.alloc (.cells (rowB sec) 77) = v at hv1 hvb ⊢
          refine wp_region_still_tail 5 (by kernel_rfl) (by kernel_rfl) ?_
          change wpStill _ _ (World.drew v) (fun a' => wpList _ _ _ _ a' (World.drew v)) _ _
          have V1 : Hid (v.drew.heap[wr.heap.size]? = some (.cells (rowB sec) 77 (0, 0))) := Lib.hid hv1
          have VB : Hid (Below wr.heap.size wr v.drew) := Lib.hid hvb.drew
          generalize v.drew = v2 at V1 VB ⊢
          have hcs : v2.cell? ⟨b, off + k + i, none⟩ = some (.slice A6 128 c6) := (VB.out.cell (p := ⟨b, _, none⟩) (cell_lt HCU.out)).trans HCU.out
          have hi16 : (i : Int) < 16 := by omega
          simp only [List.take_succ_cons, List.take_zero, List.drop_succ_cons, List.drop_zero]
          repeat still_step
          refine wpStill_nil ?_
          clear hcs hv1 hvb
          go_wp2_with fail
          have hx1 := txt_of_block V1.out (by rw [HSEC.out]; unfold maxLen; omega)
          rw [HSEC.out] at hx1
          refine (equal_any _ _ sec sc v2 hx1 (HTU.out.below (HB.out.trans (VB.out.mono HB.out.size)))).mono ?_
          rintro e v3 ⟨rfl, rfl⟩
          have BV := Lib.hid (HB.out.trans (VB.out.mono HB.out.size))
          clear hx1 V1 VB
          by_cases he : sec = sc
          · have hd : decide (sec = sc) = true := decide_eq_true he
            have HS2 := Lib.hid (HST.out he)
            rw [hd]
            clear he hd
            go_wp2_with fail
            go_roundw
            case measure => simp [intOf]; omega
            case rel => exact ⟨i + 1, by omega, by go_num, HS2.out, BV.out⟩
          · have hd : decide (sec = sc) = false := decide_eq_false he
            have HW2 := Lib.hid (HDF.out he)
            rw [hd]
            clear he hd
            have hc := (BV.out.block _ (heap_lt C3.out)).trans C3.out
            have C4 := Lib.hid hc
            have B4 := Lib.hid (B3.out.trans (BV.out.mono B3.out.size))
            obtain ⟨r0, r1⟩ := cell2_of hc
            have f0 := frozen2_of hc 0
            have f1 := frozen2_of hc 1
            clear hc
            go_wp2_with fail
            exact bodyPost_ret (results_2_tmp rfl _ _ w.heap.size rfl (heap_set2 C4.out _ _) Try.underlying36 infoRec2 (.bool false) rfl) rfl ⟨NONE.out _ _ _ C4.out HW2.out, below_set2 B4.out (Nat.le_refl _) _ _⟩
        · obtain rfl : i = n := by omega
          have hlt' : ¬ (i : Int) < i := by omega
          have hWs : wholeR S k = some (g, t) := by
            rw [HW.out, if_pos]
            refine ⟨HSL.out, taken_eq (by rw [SL.out]; exact cntR_le HOK.out.2.2) (fun j hj => ?_)⟩
            rw [← HLS.out]
            exact HEQ.out j (by rw [HN.out]; exact hj)
          have hz := (HB.out.block _ (heap_lt Z3.out)).trans Z3.out
          have hc := (HB.out.block _ (heap_lt C3.out)).trans C3.out
          have C4 := Lib.hid hc
          have B4 := Lib.hid (B3.out.trans (HB.out.mono B3.out.size))
          have O4 := Lib.hid (O3.out.below HB.out)
          have HWS := Lib.hid hWs
          obtain ⟨k0, k1⟩ := cell2_of hz
          obtain ⟨r0, r1⟩ := cell2_of hc
          have f0 := frozen2_of hc 0
          have f1 := frozen2_of hc 1
          clear hz hc hWs
          go_wp2_with fail
          have hne : tb ≠ w.heap.size := by
            obtain ⟨b9, _, _, _, e9, h9, _⟩ := HO.out
            cases e9
            have := LQ.out
            omega
          refine bodyPost_ret (results_2_tmp rfl _ _ w.heap.size rfl (heap_set2 C4.out _ _) Try.underlying36 infoRec2 (.bool true) rfl) rfl ⟨?_, below_set2 B4.out (Nat.le_refl _) _ _⟩
          rw [HWS.out]
          refine ⟨_, rfl, ?_⟩
          obtain ⟨b9, o9, p9, cs9, e9, h9, g9, hr9⟩ := O4.out
          cases e9
          exact ⟨tb, toff, tcap, cs9, rfl, by have := LQ.out; omega, (heap_setFar _ w.heap.size 1 tb _ hne).trans ((heap_setFar _ w.heap.size 0 tb _ hne).trans g9), hr9⟩
    · have hsI : ¬ ((slotN g : Nat) : Int) = k := by omega
      have hWn := HW.out
      rw [if_neg (fun h => hs h.1)] at hWn
      have HWN := Lib.hid hWn
      clear hWn
      go_wp2_with fail
      exact bodyPost_ret (results_2_tmp rfl _ _ w.heap.size rfl (heap_set2 Q0.out _ _) Try.underlying36 infoRec2 (.bool false) rfl) rfl ⟨NONE.out _ _ _ Q0.out HWN.out, below_set2 QB.out (Nat.le_refl _) _ _⟩
end Go.Proofs.Ytdjoflhcagfmiaa
