/-
  A new disk, as the program makes it.
  Conditions: none.
-/
import Derived.Test.YtdjoflhcagfmiaaDevComeK
set_option linter.unusedVariables false
set_option linter.unusedSimpArgs false
set_option maxRecDepth 100000
namespace Go.Proofs.Ytdjoflhcagfmiaa
open Go.RowKit

theorem wp_append_any {P : Program} {w : World} {o : Oper} {a : Act} {K : Act → World → Prop} {Q : Exit → Act → World → Prop} (s x : Operand) (t : TypeId)
    (ho : o.op = .call { callee := .builtin .append, args := #[s, x], argTypes := #[t, t] })
    {base e size bytes : Nat} {i : TypeInfo} {z : Value} (ht : P.underlying t = some (.slice e)) (hi : P.info? e = some i) (hz : i.zero = some z) (hzs : z.cells.size = size) (hsize : i.size = size) (hsz : 0 < size) (hby : i.bytes = bytes) (hb8 : bytes ≤ 100)
    {v : Value} {n m : Nat} {ys : List Value} (hs : a.eval s = v) (hown : w.ownsRow base e size v n ys) {b c : Nat} {news : List Value} (hu : a.eval x = .slice (some ⟨b, 0, none⟩) m c) (hl : news.length = m * size)
    (hc : ∀ j u, news[j]? = some u → w.cell? ⟨b, j, none⟩ = some u) (h1 : ∀ u ∈ news, u.oneCell' = true) (h63 : n + m ≤ 100000) (hbase : base ≤ w.heap.size)
    (h : ∀ v' w', w'.ownsRow base e size v' (n + m) (ys ++ news) → w.grownBy w' v.ownBlock → K (a.put o.dst v') w') : o.wp P a w K Q := by
  obtain ⟨v', w', hrun, h2, h3, _⟩ := run_append_own (P := P) w base t o.type e i z size bytes ht hi hz hsize hby hzs hsz v n ys hown ⟨b, 0, none⟩ m c news hl (fun j u hj => by rw [Addr.add_lit, Nat.zero_add]; exact hc j u hj) h1 (by unfold maxLen; omega)
    (by have := Nat.mul_le_mul h63 hb8; omega) hbase
  unfold Oper.wp execOp
  simp only [ho, resolve, invoke, builtin, Sem.run_bind, Sem.run_pure, Result.andThen_ok, List.map_toArray, List.map_cons, List.map_nil, hs, hu, hrun]
  exact h v' w' h2 h3
theorem heap_setA {W : World} {b : Nat} {c0 c1 : Value} {t : TypeId} (h : W.heap[b]? = some (.cells #[c0, c1] t (0, 0))) (x : Value) : (W.setCell ⟨b, 0, none⟩ x).heap[b]? = some (.cells #[x, c1] t (0, 0)) := by
  simp only [World.setCell, Array.getElem?_modify, if_true, h, Option.map_some]
  rfl
theorem heap_setB {W : World} {b : Nat} {c0 c1 : Value} {t : TypeId} (h : W.heap[b]? = some (.cells #[c0, c1] t (0, 0))) (x : Value) : (W.setCell ⟨b, 1, none⟩ x).heap[b]? = some (.cells #[c0, x] t (0, 0)) := by
  simp only [World.setCell, Array.getElem?_modify, if_true, h, Option.map_some]
  rfl
theorem heap_setFar (W : World) (b j i : Nat) (x : Value) (h : i ≠ b) : (W.setCell ⟨b, j, none⟩ x).heap[i]? = W.heap[i]? := Below.heap_setCell W ⟨b, j, none⟩ x i h
theorem grown_set (W : World) (b j : Nat) (x : Value) : W.grownBy (W.setCell ⟨b, j, none⟩ x) (some b) := ⟨rfl, rfl, rfl, by simp [World.setCell], fun i _ hi => Below.heap_setCell W ⟨b, j, none⟩ x i (fun e => hi (by rw [e]))⟩
theorem below_set {B b : Nat} {w W : World} (h : Below B w W) (hb : B ≤ b) (j : Nat) (x : Value) : Below B w (W.setCell ⟨b, j, none⟩ x) := h.setCell (p := ⟨b, j, none⟩) hb x

def z128 : Bs := List.replicate 128 0
theorem z128_length : z128.length = 128 := List.length_replicate
def zRow : List Value := z128.map u8
theorem made_cells : (madeCells (Value.int IntKind.u8 0).cells (128 * 1)).toList = z128.map u8 := by
  rw [z128, List.map_replicate]
  apply List.ext_getElem?
  intro j
  simp only [madeCells, Array.toList_map, Array.toList_range, List.getElem?_map, List.getElem?_replicate]
  by_cases h : j < 128
  · rw [List.getElem?_range h, if_pos h]
    simp [Value.cells, u8, Nat.mod_one]
  · rw [List.getElem?_eq_none (by simp; omega), if_neg h]; rfl
theorem made_row (w' : World) : ∃ o : Obj, (Instr.makeSlice 34 (.int .i64 128) (.int .i64 128)).run Try.prog w' = .ok (.slice (some ⟨w'.heap.size, 0, none⟩) 128 128) (w'.alloc o) ∧ (w'.alloc o).ownsRow w'.heap.size 5 1 (.slice (some ⟨w'.heap.size, 0, none⟩) 128 128) 128 (z128.map u8) := by
  obtain ⟨i0, hi, hz0, hz1, hz2⟩ := info_parts infoByte
  have := run_make (P := Try.prog) w' 34 5 i0 _ Try.underlying34 hi hz0 .i64 .i64 128 128 (by omega) (by omega) (by rw [hz2]; omega) (by omega)
  refine ⟨_, this, ⟨by rw [List.length_map, z128_length], .inr ⟨_, 128, _, rfl, Nat.le_refl _, heap_alloc_self _ _, Nat.le_refl _, by unfold maxLen; omega, ?_, ?_⟩⟩⟩
  · rw [size_madeCells, hz1]; rfl
  · rw [hz1]
    have h := made_cells
    rw [show (128 : Int).toNat = 128 from rfl, h]
    exact List.take_of_length_le (by rw [List.length_map, z128_length]; omega)
theorem made_row2 (wr : World) : ∃ o : Obj, (Instr.makeSlice 34 (.int .i64 128) (.int .i64 128)).run Try.prog wr.drew = .ok (.slice (some ⟨wr.drew.heap.size, 0, none⟩) 128 128) (wr.drew.alloc o) ∧ (wr.alloc o).drew.ownsRow wr.heap.size 5 1 (.slice (some ⟨wr.heap.size, 0, none⟩) 128 128) 128 zRow := made_row wr.drew
theorem secs_snoc_z {W w1 w2 : World} {lo i : Nat} {v v' y : Value} {ys : List Value} {o : Obj} (hi : i ≤ 1000) (ho : W.ownsRow lo 34 1 v i ys) (hl : ys.length = i)
    (he : ∀ (j : Nat) (y : Value) (s : Bs), ys[j]? = some y → (List.replicate i z128)[j]? = some s → W.ownsRow lo 5 1 y s.length (s.map u8) ∧ s.length ≤ maxLen)
    (hd : ∀ (i j : Nat) (y z : Value) (b : Nat), ys[i]? = some y → ys[j]? = some z → y.ownBlock = some b → z.ownBlock = some b → i = j)
    (hlo : lo ≤ W.heap.size) (hb1 : Below W.heap.size W w1) (hy : w1.ownsRow W.heap.size 5 1 y 128 zRow)
    (hown : w2.ownsRow lo 34 1 v' (i + 1) (ys ++ [y])) (hgr : (w1.alloc o).grownBy w2 v.ownBlock) : SecsAt w2 lo v' (List.replicate (i + 1) z128) := by
  rw [List.replicate_succ']
  exact secs_snoc (ss := List.replicate i z128) (s := z128) (by rw [List.length_replicate]; exact ho) (by rw [List.length_replicate]; exact hl) he hd hlo hb1 (by rw [z128_length]; exact hy) (by rw [z128_length]; unfold maxLen; omega) (by rw [List.length_replicate]; unfold maxLen; omega) (by rw [List.length_replicate]; exact hown) hgr
def newD : List Bs := List.replicate 32 z128
theorem may_new : May newD [] := ⟨List.length_replicate, by simp, fun x hx => by rw [List.eq_of_mem_replicate hx]; exact z128_length, by simp⟩

set_option maxHeartbeats 2000000 in
theorem new_any (w : World) : Calls Try.prog 10 #[] w fun e w' => ∃ v1, e = .returned (.agg #[v1, .slice none 0 0]) ∧ SecsAt w' w.heap.size v1 newD ∧ Below w.heap.size w w' := by
  obtain ⟨i0, hi, hz0, hz1, hz2⟩ := info_parts infoSlice
  have I0 := Lib.hid hi
  have I1 := Lib.hid hz0
  have I2 := Lib.hid hz1
  have I3 := Lib.hid hz2
  clear hi hz0 hz1 hz2
  have hq0 : ((w.alloc (.cells #[.slice none 0 0, .slice none 0 0] 29)).alloc (.cells #[.slice none 0 0, .slice none 0 0] 29)).heap[w.heap.size]? = some (.cells #[.slice none 0 0, .slice none 0 0] 29 (0, 0)) := by
    rw [heap_alloc_lt _ _ (by rw [heap_alloc_size]; omega)]; exact heap_alloc_self _ _
  have hq1 : ((w.alloc (.cells #[.slice none 0 0, .slice none 0 0] 29)).alloc (.cells #[.slice none 0 0, .slice none 0 0] 29)).heap[w.heap.size + 1]? = some (.cells #[.slice none 0 0, .slice none 0 0] 29 (0, 0)) := by
    have := heap_alloc_self (w.alloc (.cells #[.slice none 0 0, .slice none 0 0] 29)) (.cells #[.slice none 0 0, .slice none 0 0] 29)
    rwa [heap_alloc_size] at this
  have hqb : Below w.heap.size w ((w.alloc (.cells #[.slice none 0 0, .slice none 0 0] 29)).alloc (.cells #[.slice none 0 0, .slice none 0 0] 29)) := (below_new w _).alloc (by simp) _
  go_enter Try.func10, Try.ntmps10
  go_wp2_with fail
  generalize (w.alloc (.cells #[.slice none 0 0, .slice none 0 0] 29)).alloc (.cells #[.slice none 0 0, .slice none 0 0] 29) = q at hq0 hq1 hqb ⊢
  have LQ := Lib.hid (heap_lt hq1)
  have Q0 := Lib.hid hq0
  have Q1 := Lib.hid hq1
  have QB := Lib.hid hqb
  clear hq0 hq1 hqb
  go_loopw [2] (fun s2 wr => ∃ (i : Nat) (v : Value), i ≤ 32 ∧ s2 = .int .i64 i ∧ wr.heap[w.heap.size + 1]? = some (.cells #[v, .slice none 0 0] 29 (0, 0)) ∧ wr.heap[w.heap.size]? = some (.cells #[.slice none 0 0, .slice none 0 0] 29 (0, 0)) ∧ SecsAt wr q.heap.size v (List.replicate i z128) ∧ Below w.heap.size w wr ∧ q.heap.size ≤ wr.heap.size) (fun s2 _ => 32 - (intOf s2).toNat)
  case atStart => exact ⟨0, _, by omega, rfl, Q1.out, Q0.out, SecsAt.nil_ _ _, QB.out, Nat.le_refl _⟩
  case round =>
    obtain ⟨i, v, hi, rfl, hd, h0, hs, hb, hqs⟩ := hrel
    obtain ⟨A, c, hv⟩ := secs_slice hs
    rw [List.length_replicate] at hv
    subst hv
    have HD := Lib.hid hd
    have H0 := Lib.hid h0
    have HB := Lib.hid hb
    have HQ := Lib.hid hqs
    by_cases hlt : i < 32
    · have hlt' : (i : Int) < 32 := by omega
      obtain ⟨ys, hown, hyl, hm, he, hdd⟩ := hs
      rw [List.length_replicate] at hown hyl
      have O := Lib.hid hown
      have YL := Lib.hid hyl
      have E := Lib.hid he
      have D := Lib.hid hdd
      clear hd h0 hb hqs hown hyl hm he hdd
      obtain ⟨o, hmk, hmr⟩ := made_row2 wr
      have MR := Lib.hid hmr
      have MB : Hid (Below wr.heap.size wr (wr.alloc o).drew) := Lib.hid (below_new wr o).drew
      clear hmr
      have B4 : Hid (∀ w3, Below wr.heap.size wr w3 → Below wr.heap.size wr (w3.alloc (.cells #[.slice (some ⟨wr.heap.size, 0, none⟩) 128 128] 34))) := Lib.hid (fun w3 h => h.alloc h.size _)
      obtain ⟨d0, d1⟩ := cell2_of HD.out
      go_wp2_with fail
      refine wp_region_held_drew (S := fun _ => True) (by kernel_rfl) trivial (fun hHeld => ?_)
      refine wpAnyH_take (i := 0) (v := ?_) rfl (by kernel_rfl) (by kernel_rfl) (by kernel_rfl) (fun _ _ _ h => h) (Or.inl ⟨by rfl, ?_⟩) hHeld ?_
      rotate_left
      · intro w' hSw; go_simp; try with_reducible rfl
      simp only [List.getElem_toArray, List.getElem_cons_succ, List.getElem_cons_zero, Act.put, List.setIfInBounds_toArray, List.set_cons_zero, List.set_cons_succ]
      refine wpAnyH_ready (rs := [1, 2]) (by kernel_rfl) (by simp) ?_
      refine AllReadyH.cons rfl (fun K hK => ?_) (AllReadyH.cons rfl (fun K hK => ?_) AllReadyH.nil)
      · go_simp
        refine hK.out _ _ ?_ (fun hHeld => ?_)
        · exact trivial
        clear hK K
        try simp only [List.getElem_toArray, List.getElem_cons_succ, List.getElem_cons_zero, Act.put, List.setIfInBounds_toArray, List.set_cons_zero, List.set_cons_succ]
        refine wpAnyH_ready (rs := [2]) (by kernel_rfl) (by simp) ?_
        refine AllReadyH.cons rfl (fun K hK => ?_) AllReadyH.nil
        go_simp
        refine hK.out _ _ ?_ (fun hHeld => ?_)
        · exact trivial
        clear hK K
        try simp only [List.getElem_toArray, List.getElem_cons_succ, List.getElem_cons_zero, Act.put, List.setIfInBounds_toArray, List.set_cons_zero, List.set_cons_succ]
        generalize (wr.alloc o).drew = w3 at MR MB ⊢
        clear hmk
        refine wpAnyH_ready (rs := [3]) (by kernel_rfl) (by simp) ?_
        refine AllReadyH.cons rfl (fun K hK => ?_) AllReadyH.nil
        go_simp
        refine hK.out _ _ ?_ (fun hHeld => ?_)
        · exact trivial
        clear hK K
        try simp only [List.getElem_toArray, List.getElem_cons_succ, List.getElem_cons_zero, Act.put, List.setIfInBounds_toArray, List.set_cons_zero, List.set_cons_succ]
        refine wpAnyH_ready (rs := [4]) (by kernel_rfl) (by simp) ?_
        refine AllReadyH.cons rfl (fun K hK => ?_) AllReadyH.nil
        rw [if_pos (by rfl)]
        refine wp_append_any (.tmp 5) (.tmp 7) _ rfl Try.underlying26 I0.out I1.out rfl I2.out (by decide) I3.out (by decide) rfl ((owns_below O.out MB.out).alloc _) (m := 1) rfl (news := [.slice (some ⟨wr.heap.size, 0, none⟩) 128 128]) rfl (fun j u hj => by rw [World.cell?_alloc_new]; simpa using hj) (by simp [Value.oneCell']) (by omega) (Nat.le_trans HQ.out (B4.out w3 MB.out).size) ?_
        intro v5 w5 hown5 hgrow5
        have S5 := Lib.hid (secs_snoc_z (by omega) O.out YL.out E.out D.out HQ.out MB.out MR.out hown5 hgrow5)
        have B5 := Lib.hid ((HB.out.trans ((B4.out w3 MB.out).mono HB.out.size)).grown hgrow5 (Nat.le_trans HB.out.size (B4.out w3 MB.out).size) (fun k hk => by have := own_ge O.out k hk; have := LQ.out; omega))
        have L5 := Lib.hid (Nat.le_trans (B4.out w3 MB.out).size hgrow5.size)
        have C5 := Lib.hid ((hgrow5.block _ (Nat.lt_of_lt_of_le (heap_lt HD.out) (B4.out w3 MB.out).size) (fun e => by have := own_ge O.out _ e.symm; have := LQ.out; omega)).trans (((B4.out w3 MB.out).block _ (heap_lt HD.out)).trans HD.out))
        have R5 := Lib.hid ((hgrow5.block _ (Nat.lt_of_lt_of_le (heap_lt H0.out) (B4.out w3 MB.out).size) (fun e => by have := own_ge O.out _ e.symm; have := LQ.out; omega)).trans (((B4.out w3 MB.out).block _ (heap_lt H0.out)).trans H0.out))
        obtain ⟨A6, c6, h6⟩ := own_slice2_ hown5
        subst h6
        clear hown5 hgrow5
        refine hK.out _ _ ?_ (fun hHeld => ?_)
        · exact trivial
        clear hK K
        try simp only [List.getElem_toArray, List.getElem_cons_succ, List.getElem_cons_zero, Act.put, List.setIfInBounds_toArray, List.set_cons_zero, List.set_cons_succ]
        refine wpAnyH_take (i := 5) (v := ?_) rfl (by kernel_rfl) (by kernel_rfl) (by kernel_rfl) (fun _ _ _ h => h) (Or.inl ⟨by rfl, ?_⟩) hHeld ?_
        rotate_left
        · intro w' hSw; go_simp; try with_reducible rfl
        simp only [List.getElem_toArray, List.getElem_cons_succ, List.getElem_cons_zero, Act.put, List.setIfInBounds_toArray, List.set_cons_zero, List.set_cons_succ]
        obtain ⟨m0, m1⟩ := cell2_of C5.out
        have f0 := frozen2_of C5.out 0
        refine wpAnyH_ready (rs := [6]) (by kernel_rfl) (by simp) ?_
        refine AllReadyH.cons rfl (fun K hK => ?_) AllReadyH.nil
        rw [if_pos (by rfl)]
        go_simp
        refine hK.out _ _ ?_ (fun hHeld => ?_)
        · exact trivial
        clear hK K
        try simp only [List.getElem_toArray, List.getElem_cons_succ, List.getElem_cons_zero, Act.put, List.setIfInBounds_toArray, List.set_cons_zero, List.set_cons_succ]
        refine wpAnyH_done (by kernel_rfl) ?_ _
        have C6 := Lib.hid (heap_setA C5.out (.slice A6 (i + 1) c6))
        have R6 := Lib.hid ((heap_setFar w5 (w.heap.size + 1) 0 w.heap.size (.slice A6 (i + 1) c6) (by omega)).trans R5.out)
        have S6 := Lib.hid (secs_grown S5.out (grown_set w5 (w.heap.size + 1) 0 (.slice A6 (i + 1) c6)) LQ.out)
        have B6 := Lib.hid (below_set B5.out (Nat.le_succ w.heap.size) 0 (.slice A6 (i + 1) c6))
        have L6 := Lib.hid (Nat.le_trans L5.out (grown_set w5 (w.heap.size + 1) 0 (.slice A6 (i + 1) c6)).size)
        generalize w5.setCell ⟨w.heap.size + 1, 0, none⟩ (.slice A6 (i + 1) c6) = w6 at C6 R6 S6 B6 L6 ⊢
        clear m0 m1 f0
        go_wp2_with fail
        go_roundw
        case measure => simp [intOf]; omega
        case rel => exact ⟨i + 1, _, by omega, by go_num, C6.out, R6.out, S6.out, B6.out, Nat.le_trans HQ.out L6.out⟩
      · go_simp
        refine hK.out _ _ ?_ (fun hHeld => ?_)
        · exact trivial
        clear hK K
        try simp only [List.getElem_toArray, List.getElem_cons_succ, List.getElem_cons_zero, Act.put, List.setIfInBounds_toArray, List.set_cons_zero, List.set_cons_succ]
        generalize (wr.alloc o).drew = w3 at MR MB ⊢
        clear hmk
        refine wpAnyH_ready (rs := [1, 3]) (by kernel_rfl) (by simp) ?_
        refine AllReadyH.cons rfl (fun K hK => ?_) (AllReadyH.cons rfl (fun K hK => ?_) AllReadyH.nil)
        · obtain ⟨k0, k1⟩ := cell2_of ((MB.out.block _ (heap_lt HD.out)).trans HD.out)
          go_simp
          refine hK.out _ _ ?_ (fun hHeld => ?_)
          · exact trivial
          clear hK K
          try simp only [List.getElem_toArray, List.getElem_cons_succ, List.getElem_cons_zero, Act.put, List.setIfInBounds_toArray, List.set_cons_zero, List.set_cons_succ]
          refine wpAnyH_ready (rs := [3]) (by kernel_rfl) (by simp) ?_
          refine AllReadyH.cons rfl (fun K hK => ?_) AllReadyH.nil
          go_simp
          refine hK.out _ _ ?_ (fun hHeld => ?_)
          · exact trivial
          clear hK K
          try simp only [List.getElem_toArray, List.getElem_cons_succ, List.getElem_cons_zero, Act.put, List.setIfInBounds_toArray, List.set_cons_zero, List.set_cons_succ]
          refine wpAnyH_ready (rs := [4]) (by kernel_rfl) (by simp) ?_
          refine AllReadyH.cons rfl (fun K hK => ?_) AllReadyH.nil
          rw [if_pos (by rfl)]
          refine wp_append_any (.tmp 5) (.tmp 7) _ rfl Try.underlying26 I0.out I1.out rfl I2.out (by decide) I3.out (by decide) rfl ((owns_below O.out MB.out).alloc _) (m := 1) rfl (news := [.slice (some ⟨wr.heap.size, 0, none⟩) 128 128]) rfl (fun j u hj => by rw [World.cell?_alloc_new]; simpa using hj) (by simp [Value.oneCell']) (by omega) (Nat.le_trans HQ.out (B4.out w3 MB.out).size) ?_
          intro v5 w5 hown5 hgrow5
          have S5 := Lib.hid (secs_snoc_z (by omega) O.out YL.out E.out D.out HQ.out MB.out MR.out hown5 hgrow5)
          have B5 := Lib.hid ((HB.out.trans ((B4.out w3 MB.out).mono HB.out.size)).grown hgrow5 (Nat.le_trans HB.out.size (B4.out w3 MB.out).size) (fun k hk => by have := own_ge O.out k hk; have := LQ.out; omega))
          have L5 := Lib.hid (Nat.le_trans (B4.out w3 MB.out).size hgrow5.size)
          have C5 := Lib.hid ((hgrow5.block _ (Nat.lt_of_lt_of_le (heap_lt HD.out) (B4.out w3 MB.out).size) (fun e => by have := own_ge O.out _ e.symm; have := LQ.out; omega)).trans (((B4.out w3 MB.out).block _ (heap_lt HD.out)).trans HD.out))
          have R5 := Lib.hid ((hgrow5.block _ (Nat.lt_of_lt_of_le (heap_lt H0.out) (B4.out w3 MB.out).size) (fun e => by have := own_ge O.out _ e.symm; have := LQ.out; omega)).trans (((B4.out w3 MB.out).block _ (heap_lt H0.out)).trans H0.out))
          obtain ⟨A6, c6, h6⟩ := own_slice2_ hown5
          subst h6
          clear hown5 hgrow5
          refine hK.out _ _ ?_ (fun hHeld => ?_)
          · exact trivial
          clear hK K
          try simp only [List.getElem_toArray, List.getElem_cons_succ, List.getElem_cons_zero, Act.put, List.setIfInBounds_toArray, List.set_cons_zero, List.set_cons_succ]
          refine wpAnyH_take (i := 5) (v := ?_) rfl (by kernel_rfl) (by kernel_rfl) (by kernel_rfl) (fun _ _ _ h => h) (Or.inl ⟨by rfl, ?_⟩) hHeld ?_
          rotate_left
          · intro w' hSw; go_simp; try with_reducible rfl
          simp only [List.getElem_toArray, List.getElem_cons_succ, List.getElem_cons_zero, Act.put, List.setIfInBounds_toArray, List.set_cons_zero, List.set_cons_succ]
          obtain ⟨m0, m1⟩ := cell2_of C5.out
          have f0 := frozen2_of C5.out 0
          refine wpAnyH_ready (rs := [6]) (by kernel_rfl) (by simp) ?_
          refine AllReadyH.cons rfl (fun K hK => ?_) AllReadyH.nil
          rw [if_pos (by rfl)]
          go_simp
          refine hK.out _ _ ?_ (fun hHeld => ?_)
          · exact trivial
          clear hK K
          try simp only [List.getElem_toArray, List.getElem_cons_succ, List.getElem_cons_zero, Act.put, List.setIfInBounds_toArray, List.set_cons_zero, List.set_cons_succ]
          refine wpAnyH_done (by kernel_rfl) ?_ _
          have C6 := Lib.hid (heap_setA C5.out (.slice A6 (i + 1) c6))
          have R6 := Lib.hid ((heap_setFar w5 (w.heap.size + 1) 0 w.heap.size (.slice A6 (i + 1) c6) (by omega)).trans R5.out)
          have S6 := Lib.hid (secs_grown S5.out (grown_set w5 (w.heap.size + 1) 0 (.slice A6 (i + 1) c6)) LQ.out)
          have B6 := Lib.hid (below_set B5.out (Nat.le_succ w.heap.size) 0 (.slice A6 (i + 1) c6))
          have L6 := Lib.hid (Nat.le_trans L5.out (grown_set w5 (w.heap.size + 1) 0 (.slice A6 (i + 1) c6)).size)
          generalize w5.setCell ⟨w.heap.size + 1, 0, none⟩ (.slice A6 (i + 1) c6) = w6 at C6 R6 S6 B6 L6 ⊢
          clear m0 m1 f0
          go_wp2_with fail
          go_roundw
          case measure => simp [intOf]; omega
          case rel => exact ⟨i + 1, _, by omega, by go_num, C6.out, R6.out, S6.out, B6.out, Nat.le_trans HQ.out L6.out⟩
        · go_simp
          refine hK.out _ _ ?_ (fun hHeld => ?_)
          · exact trivial
          clear hK K
          try simp only [List.getElem_toArray, List.getElem_cons_succ, List.getElem_cons_zero, Act.put, List.setIfInBounds_toArray, List.set_cons_zero, List.set_cons_succ]
          refine wpAnyH_ready (rs := [1]) (by kernel_rfl) (by simp) ?_
          refine AllReadyH.cons rfl (fun K hK => ?_) AllReadyH.nil
          obtain ⟨k0, k1⟩ := cell2_of (((B4.out w3 MB.out).block _ (heap_lt HD.out)).trans HD.out)
          go_simp
          refine hK.out _ _ ?_ (fun hHeld => ?_)
          · exact trivial
          clear hK K
          try simp only [List.getElem_toArray, List.getElem_cons_succ, List.getElem_cons_zero, Act.put, List.setIfInBounds_toArray, List.set_cons_zero, List.set_cons_succ]
          refine wpAnyH_ready (rs := [4]) (by kernel_rfl) (by simp) ?_
          refine AllReadyH.cons rfl (fun K hK => ?_) AllReadyH.nil
          rw [if_pos (by rfl)]
          refine wp_append_any (.tmp 5) (.tmp 7) _ rfl Try.underlying26 I0.out I1.out rfl I2.out (by decide) I3.out (by decide) rfl ((owns_below O.out MB.out).alloc _) (m := 1) rfl (news := [.slice (some ⟨wr.heap.size, 0, none⟩) 128 128]) rfl (fun j u hj => by rw [World.cell?_alloc_new]; simpa using hj) (by simp [Value.oneCell']) (by omega) (Nat.le_trans HQ.out (B4.out w3 MB.out).size) ?_
          intro v5 w5 hown5 hgrow5
          have S5 := Lib.hid (secs_snoc_z (by omega) O.out YL.out E.out D.out HQ.out MB.out MR.out hown5 hgrow5)
          have B5 := Lib.hid ((HB.out.trans ((B4.out w3 MB.out).mono HB.out.size)).grown hgrow5 (Nat.le_trans HB.out.size (B4.out w3 MB.out).size) (fun k hk => by have := own_ge O.out k hk; have := LQ.out; omega))
          have L5 := Lib.hid (Nat.le_trans (B4.out w3 MB.out).size hgrow5.size)
          have C5 := Lib.hid ((hgrow5.block _ (Nat.lt_of_lt_of_le (heap_lt HD.out) (B4.out w3 MB.out).size) (fun e => by have := own_ge O.out _ e.symm; have := LQ.out; omega)).trans (((B4.out w3 MB.out).block _ (heap_lt HD.out)).trans HD.out))
          have R5 := Lib.hid ((hgrow5.block _ (Nat.lt_of_lt_of_le (heap_lt H0.out) (B4.out w3 MB.out).size) (fun e => by have := own_ge O.out _ e.symm; have := LQ.out; omega)).trans (((B4.out w3 MB.out).block _ (heap_lt H0.out)).trans H0.out))
          obtain ⟨A6, c6, h6⟩ := own_slice2_ hown5
          subst h6
          clear hown5 hgrow5
          refine hK.out _ _ ?_ (fun hHeld => ?_)
          · exact trivial
          clear hK K
          try simp only [List.getElem_toArray, List.getElem_cons_succ, List.getElem_cons_zero, Act.put, List.setIfInBounds_toArray, List.set_cons_zero, List.set_cons_succ]
          refine wpAnyH_take (i := 5) (v := ?_) rfl (by kernel_rfl) (by kernel_rfl) (by kernel_rfl) (fun _ _ _ h => h) (Or.inl ⟨by rfl, ?_⟩) hHeld ?_
          rotate_left
          · intro w' hSw; go_simp; try with_reducible rfl
          simp only [List.getElem_toArray, List.getElem_cons_succ, List.getElem_cons_zero, Act.put, List.setIfInBounds_toArray, List.set_cons_zero, List.set_cons_succ]
          obtain ⟨m0, m1⟩ := cell2_of C5.out
          have f0 := frozen2_of C5.out 0
          refine wpAnyH_ready (rs := [6]) (by kernel_rfl) (by simp) ?_
          refine AllReadyH.cons rfl (fun K hK => ?_) AllReadyH.nil
          rw [if_pos (by rfl)]
          go_simp
          refine hK.out _ _ ?_ (fun hHeld => ?_)
          · exact trivial
          clear hK K
          try simp only [List.getElem_toArray, List.getElem_cons_succ, List.getElem_cons_zero, Act.put, List.setIfInBounds_toArray, List.set_cons_zero, List.set_cons_succ]
          refine wpAnyH_done (by kernel_rfl) ?_ _
          have C6 := Lib.hid (heap_setA C5.out (.slice A6 (i + 1) c6))
          have R6 := Lib.hid ((heap_setFar w5 (w.heap.size + 1) 0 w.heap.size (.slice A6 (i + 1) c6) (by omega)).trans R5.out)
          have S6 := Lib.hid (secs_grown S5.out (grown_set w5 (w.heap.size + 1) 0 (.slice A6 (i + 1) c6)) LQ.out)
          have B6 := Lib.hid (below_set B5.out (Nat.le_succ w.heap.size) 0 (.slice A6 (i + 1) c6))
          have L6 := Lib.hid (Nat.le_trans L5.out (grown_set w5 (w.heap.size + 1) 0 (.slice A6 (i + 1) c6)).size)
          generalize w5.setCell ⟨w.heap.size + 1, 0, none⟩ (.slice A6 (i + 1) c6) = w6 at C6 R6 S6 B6 L6 ⊢
          clear m0 m1 f0
          go_wp2_with fail
          go_roundw
          case measure => simp [intOf]; omega
          case rel => exact ⟨i + 1, _, by omega, by go_num, C6.out, R6.out, S6.out, B6.out, Nat.le_trans HQ.out L6.out⟩
    · obtain rfl : i = 32 := by omega
      have hlt' : ¬ ((32 : Nat) : Int) < 32 := by omega
      have HS := Lib.hid hs
      obtain ⟨d0, d1⟩ := cell2_of hd
      obtain ⟨r0, r1⟩ := cell2_of h0
      have f0 := frozen2_of h0 0
      have f1 := frozen2_of h0 1
      clear hd h0 hb hqs hs hlt hi
      go_wp2_with fail
      have hgr := grown_set2 wr w.heap.size (.slice A 32 c) (.slice none 0 0)
      refine bodyPost_ret (v := .agg #[.slice A 32 c, .slice none 0 0]) ?_ rfl ⟨_, rfl, ?_, ?_⟩
      · exact results_cell_2 rfl _ _ w.heap.size rfl (heap_set2 H0.out _ _) Try.underlying29 infoDisk2
      · exact (secs_grown HS.out hgr (by have := LQ.out; omega)).mono (by have := LQ.out; omega)
      · exact HB.out.trans ((Below.refl _ _).grown hgr HB.out.size (fun k hk => by cases hk; exact Nat.le_refl _))
end Go.Proofs.Ytdjoflhcagfmiaa
