/-
  A new disk, as the program makes it.
  Conditions: none.
-/
import Derived.Test.YtdjoflhcagfmiaaMComeK
import Derived.Laws.BitsAllLaws
set_option linter.unusedVariables false
set_option linter.unusedSimpArgs false
set_option maxRecDepth 100000
namespace Go.Proofs.Ytdjoflhcagfmiaa
open Go.RowKit

theorem wp_append_any {P : Program} {w : World} {o : Oper} {a : Act} {K : Act → World → Prop} {Q : Exit → Act → World → Prop} (s x : Operand) (t : TypeId)
    (ho : o.op = .call { callee := .builtin .append, args := #[s, x], argTypes := #[t, t] })
    {base e size bytes : Nat} {i : TypeInfo} {z : Value} (ht : P.underlying t = some (.slice e)) (hi : P.info? e = some i) (hz : i.zero = some z) (hzs : z.cells.size = size) (hsize : i.size = size) (hsz : 0 < size) (hby : i.bytes = bytes) (hb8 : bytes ≤ 100)
    {v : Value} {n m : Nat} {ys : List Value} (hs : a.eval s = v) (hown : w.ownsRow base e size v n ys) {b c : Nat} {news : List Value} (hu : a.eval x = .slice (some ⟨b, 0, none⟩) m c) (hl : news.length = m * size)
    (hc : ∀ j u, news[j]? = some u → w.cell? ⟨b, j, none⟩ = some u) (h1 : ∀ u ∈ news, u.oneCell' = true) (h63 : n + m ≤ 100000) (hbase : base ≤ w.heap.size)
    (h : ∀ v' w', w'.ownsRow base e size v' (n + m) (ys ++ news) → w.grownBy w' v.ownBlock → K (a.put o.dst v') w') : o.wp P a w K Q := by
  obtain ⟨v', w', hrun, h2, h3, _⟩ := run_append_own (P := P) w base t o.type e i z size bytes ht hi hz hsize hby hzs hsz v n ys hown ⟨b, 0, none⟩ m c news hl (fun j u hj => by rw [Addr.add_lit, Nat.zero_add]; exact hc j u hj) h1 (by unfold maxLen; omega)
    (by have := Nat.mul_le_mul h63 hb8; omega) hbase
  unfold Oper.wp execOp
  simp only [ho, resolve, invoke, builtin, Sem.run_bind, Sem.run_pure, Result.andThen_ok, List.map_toArray, List.map_cons, List.map_nil, hs, hu, hrun]
  exact h v' w' h2 h3
theorem heap_setA {W : World} {b : Nat} {c0 c1 : Value} {t : TypeId} (h : W.heap[b]? = some (.cells #[c0, c1] t (0, 0))) (x : Value) : (W.setCell ⟨b, 0, none⟩ x).heap[b]? = some (.cells #[x, c1] t (0, 0)) := by
  simp only [World.setCell, Array.getElem?_modify, if_true, h, Option.map_some]
  rfl
theorem heap_setB {W : World} {b : Nat} {c0 c1 : Value} {t : TypeId} (h : W.heap[b]? = some (.cells #[c0, c1] t (0, 0))) (x : Value) : (W.setCell ⟨b, 1, none⟩ x).heap[b]? = some (.cells #[c0, x] t (0, 0)) := by
  simp only [World.setCell, Array.getElem?_modify, if_true, h, Option.map_some]
  rfl
theorem heap_setFar (W : World) (b j i : Nat) (x : Value) (h : i ≠ b) : (W.setCell ⟨b, j, none⟩ x).heap[i]? = W.heap[i]? := Below.heap_setCell W ⟨b, j, none⟩ x i h
theorem grown_set (W : World) (b j : Nat) (x : Value) : W.grownBy (W.setCell ⟨b, j, none⟩ x) (some b) := ⟨rfl, rfl, rfl, by simp [World.setCell], fun i _ hi => Below.heap_setCell W ⟨b, j, none⟩ x i (fun e => hi (by rw [e]))⟩
theorem below_set {B b : Nat} {w W : World} (h : Below B w W) (hb : B ≤ b) (j : Nat) (x : Value) : Below B w (W.setCell ⟨b, j, none⟩ x) := h.setCell (p := ⟨b, j, none⟩) hb x

def z128 : Bs := List.replicate 128 0
theorem z128_length : z128.length = 128 := List.length_replicate
def zRow : List Value := z128.map u8
theorem made_cells : (madeCells (Value.int IntKind.u8 0).cells (128 * 1)).toList = z128.map u8 := by
  rw [z128, List.map_replicate]
  apply List.ext_getElem?
  intro j
  simp only [madeCells, Array.toList_map, Array.toList_range, List.getElem?_map, List.getElem?_replicate]
  by_cases h : j < 128
  · rw [List.getElem?_range h, if_pos h]
    simp [Value.cells, u8, Nat.mod_one]
  · rw [List.getElem?_eq_none (by simp; omega), if_neg h]; rfl
theorem made_row (w' : World) : ∃ o : Obj, (Instr.makeSlice 34 (.int .i64 128) (.int .i64 128)).run Try.prog w' = .ok (.slice (some ⟨w'.heap.size, 0, none⟩) 128 128) (w'.alloc o) ∧ (w'.alloc o).ownsRow w'.heap.size 5 1 (.slice (some ⟨w'.heap.size, 0, none⟩) 128 128) 128 (z128.map u8) := by
  obtain ⟨i0, hi, hz0, hz1, hz2⟩ := info_parts infoByte
  have := run_make (P := Try.prog) w' 34 5 i0 _ Try.underlying34 hi hz0 .i64 .i64 128 128 (by omega) (by omega) (by rw [hz2]; omega) (by omega)
  refine ⟨_, this, ⟨by rw [List.length_map, z128_length], .inr ⟨_, 128, _, rfl, Nat.le_refl _, heap_alloc_self _ _, Nat.le_refl _, by unfold maxLen; omega, ?_, ?_⟩⟩⟩
  · rw [size_madeCells, hz1]; rfl
  · rw [hz1]
    have h := made_cells
    rw [show (128 : Int).toNat = 128 from rfl, h]
    exact List.take_of_length_le (by rw [List.length_map, z128_length]; omega)
theorem made_row2 (wr : World) : ∃ o : Obj, (Instr.makeSlice 34 (.int .i64 128) (.int .i64 128)).run Try.prog wr.drew = .ok (.slice (some ⟨wr.drew.heap.size, 0, none⟩) 128 128) (wr.drew.alloc o) ∧ (wr.alloc o).drew.ownsRow wr.heap.size 5 1 (.slice (some ⟨wr.heap.size, 0, none⟩) 128 128) 128 zRow := made_row wr.drew
theorem secs_snoc_z {W w1 w2 : World} {lo i : Nat} {v v' y : Value} {ys : List Value} {o : Obj} (hi : i ≤ 1000) (ho : W.ownsRow lo 34 1 v i ys) (hl : ys.length = i)
    (he : ∀ (j : Nat) (y : Value) (s : Bs), ys[j]? = some y → (List.replicate i z128)[j]? = some s → W.ownsRow lo 5 1 y s.length (s.map u8) ∧ s.length ≤ maxLen)
    (hd : ∀ (i j : Nat) (y z : Value) (b : Nat), ys[i]? = some y → ys[j]? = some z → y.ownBlock = some b → z.ownBlock = some b → i = j)
    (hlo : lo ≤ W.heap.size) (hb1 : Below W.heap.size W w1) (hy : w1.ownsRow W.heap.size 5 1 y 128 zRow)
    (hown : w2.ownsRow lo 34 1 v' (i + 1) (ys ++ [y])) (hgr : (w1.alloc o).grownBy w2 v.ownBlock) : SecsAt w2 lo v' (List.replicate (i + 1) z128) := by
  rw [List.replicate_succ']
  exact secs_snoc (ss := List.replicate i z128) (s := z128) (by rw [List.length_replicate]; exact ho) (by rw [List.length_replicate]; exact hl) he hd hlo hb1 (by rw [z128_length]; exact hy) (by rw [z128_length]; unfold maxLen; omega) (by rw [List.length_replicate]; unfold maxLen; omega) (by rw [List.length_replicate]; exact hown) hgr
def newD : List Bs := List.replicate 32 z128
theorem may_new : May newD [] := ⟨List.length_replicate, by simp, fun x hx => by rw [List.eq_of_mem_replicate hx]; exact z128_length, by simp⟩

set_option maxHeartbeats 2000000 in
theorem new_any (w : World) : Calls Try.prog 10 #[] w fun e w' => ∃ v1, e = .returned (.agg #[v1, .slice none 0 0]) ∧ SecsAt w' w.heap.size v1 newD ∧ Below w.heap.size w w' := by
  obtain ⟨i0, hi, hz0, hz1, hz2⟩ := info_parts infoSlice
  have I0 := Lib.hid hi
  have I1 := Lib.hid hz0
  have I2 := Lib.hid hz1
  have I3 := Lib.hid hz2
  clear hi hz0 hz1 hz2
  have hq0 : ((w.alloc (.cells #[.slice none 0 0, .slice none 0 0] 29)).alloc (.cells #[.slice none 0 0, .slice none 0 0] 29)).heap[w.heap.size]? = some (.cells #[.slice none 0 0, .slice none 0 0] 29 (0, 0)) := by
    rw [heap_alloc_lt _ _ (by rw [heap_alloc_size]; omega)]; exact heap_alloc_self _ _
  have hq1 : ((w.alloc (.cells #[.slice none 0 0, .slice none 0 0] 29)).alloc (.cells #[.slice none 0 0, .slice none 0 0] 29)).heap[w.heap.size + 1]? = some (.cells #[.slice none 0 0, .slice none 0 0] 29 (0, 0)) := by
    have := heap_alloc_self (w.alloc (.cells #[.slice none 0 0, .slice none 0 0] 29)) (.cells #[.slice none 0 0, .slice none 0 0] 29)
    rwa [heap_alloc_size] at this
  have hqb : Below w.heap.size w ((w.alloc (.cells #[.slice none 0 0, .slice none 0 0] 29)).alloc (.cells #[.slice none 0 0, .slice none 0 0] 29)) := (below_new w _).alloc (by simp) _
  go_enter Try.func10, Try.ntmps10
  go_wp2_with fail
  generalize (w.alloc (.cells #[.slice none 0 0, .slice none 0 0] 29)).alloc (.cells #[.slice none 0 0, .slice none 0 0] 29) = q at hq0 hq1 hqb ⊢
  have LQ := Lib.hid (heap_lt hq1)
  have Q0 := Lib.hid hq0
  have Q1 := Lib.hid hq1
  have QB := Lib.hid hqb
  clear hq0 hq1 hqb
  go_loopw [2] (fun s2 wr => ∃ (i : Nat) (v : Value), i ≤ 32 ∧ s2 = .int .i64 i ∧ wr.heap[w.heap.size + 1]? = some (.cells #[v, .slice none 0 0] 29 (0, 0)) ∧ wr.heap[w.heap.size]? = some (.cells #[.slice none 0 0, .slice none 0 0] 29 (0, 0)) ∧ SecsAt wr q.heap.size v (List.replicate i z128) ∧ Below w.heap.size w wr ∧ q.heap.size ≤ wr.heap.size) (fun s2 _ => 32 - (intOf s2).toNat)
  case atStart => exact ⟨0, _, by omega, rfl, Q1.out, Q0.out, SecsAt.nil_ _ _, QB.out, Nat.le_refl _⟩
  case round =>
    obtain ⟨i, v, hi, rfl, hd, h0, hs, hb, hqs⟩ := hrel
    obtain ⟨A, c, hv⟩ := secs_slice hs
    rw [List.length_replicate] at hv
    subst hv
    have HD := Lib.hid hd
    have H0 := Lib.hid h0
    have HB := Lib.hid hb
    have HQ := Lib.hid hqs
    by_cases hlt : i < 32
    · have hlt' : (i : Int) < 32 := by omega
      obtain ⟨ys, hown, hyl, hm, he, hdd⟩ := hs
      rw [List.length_replicate] at hown hyl
      have O := Lib.hid hown
      have YL := Lib.hid hyl
      have E := Lib.hid he
      have D := Lib.hid hdd
      clear hd h0 hb hqs hown hyl hm he hdd
      obtain ⟨o, hmk, hmr⟩ := made_row2 wr
      have MR := Lib.hid hmr
      have MB : Hid (Below wr.heap.size wr (wr.alloc o).drew) := Lib.hid (below_new wr o).drew
      clear hmr
      have B4 : Hid (∀ w3, Below wr.heap.size wr w3 → Below wr.heap.size wr (w3.alloc (.cells #[.slice (some ⟨wr.heap.size, 0, none⟩) 128 128] 34))) := Lib.hid (fun w3 h => h.alloc h.size _)
      obtain ⟨d0, d1⟩ := cell2_of HD.out
      go_wp2_with fail
      refine wp_region_held_drew (S := fun _ => True) (by kernel_rfl) trivial (fun hHeld => ?_)
      refine wpAnyH_take (i := 0) (v := ?_) rfl (by kernel_rfl) (by kernel_rfl) (by kernel_rfl) (fun _ _ _ h => h) (Or.inl ⟨by rfl, ?_⟩) hHeld ?_
      rotate_left
      · intro w' hSw; go_simp; try with_reducible rfl
      simp only [List.getElem_toArray, List.getElem_cons_succ, List.getElem_cons_zero, Act.put, List.setIfInBounds_toArray, List.set_cons_zero, List.set_cons_succ]
      refine wpAnyH_ready (rs := [1, 2]) (by kernel_rfl) (by simp) ?_
      refine AllReadyH.cons rfl (fun K hK => ?_) (AllReadyH.cons rfl (fun K hK => ?_) AllReadyH.nil)
      · go_simp
        refine hK.out _ _ ?_ (fun hHeld => ?_)
        · exact trivial
        clear hK K
        try simp only [List.getElem_toArray, List.getElem_cons_succ, List.getElem_cons_zero, Act.put, List.setIfInBounds_toArray, List.set_cons_zero, List.set_cons_succ]
        refine wpAnyH_ready (rs := [2]) (by kernel_rfl) (by simp) ?_
        refine AllReadyH.cons rfl (fun K hK => ?_) AllReadyH.nil
        go_simp
        refine hK.out _ _ ?_ (fun hHeld => ?_)
        · exact trivial
        clear hK K
        try simp only [List.getElem_toArray, List.getElem_cons_succ, List.getElem_cons_zero, Act.put, List.setIfInBounds_toArray, List.set_cons_zero, List.set_cons_succ]
        generalize (wr.alloc o).drew = w3 at MR MB ⊢
        clear hmk
        refine wpAnyH_ready (rs := [3]) (by kernel_rfl) (by simp) ?_
        refine AllReadyH.cons rfl (fun K hK => ?_) AllReadyH.nil
        go_simp
        refine hK.out _ _ ?_ (fun hHeld => ?_)
        · exact trivial
        clear hK K
        try simp only [List.getElem_toArray, List.getElem_cons_succ, List.getElem_cons_zero, Act.put, List.setIfInBounds_toArray, List.set_cons_zero, List.set_cons_succ]
        refine wpAnyH_ready (rs := [4]) (by kernel_rfl) (by simp) ?_
        refine AllReadyH.cons rfl (fun K hK => ?_) AllReadyH.nil
        rw [if_pos (by rfl)]
        refine wp_append_any (.tmp 5) (.tmp 7) _ rfl Try.underlying26 I0.out I1.out rfl I2.out (by decide) I3.out (by decide) rfl ((owns_below O.out MB.out).alloc _) (m := 1) rfl (news := [.slice (some ⟨wr.heap.size, 0, none⟩) 128 128]) rfl (fun j u hj => by rw [World.cell?_alloc_new]; simpa using hj) (by simp [Value.oneCell']) (by omega) (Nat.le_trans HQ.out (B4.out w3 MB.out).size) ?_
        intro v5 w5 hown5 hgrow5
        have S5 := Lib.hid (secs_snoc_z (by omega) O.out YL.out E.out D.out HQ.out MB.out MR.out hown5 hgrow5)
        have B5 := Lib.hid ((HB.out.trans ((B4.out w3 MB.out).mono HB.out.size)).grown hgrow5 (Nat.le_trans HB.out.size (B4.out w3 MB.out).size) (fun k hk => by have := own_ge O.out k hk; have := LQ.out; omega))
        have L5 := Lib.hid (Nat.le_trans (B4.out w3 MB.out).size hgrow5.size)
        have C5 := Lib.hid ((hgrow5.block _ (Nat.lt_of_lt_of_le (heap_lt HD.out) (B4.out w3 MB.out).size) (fun e => by have := own_ge O.out _ e.symm; have := LQ.out; omega)).trans (((B4.out w3 MB.out).block _ (heap_lt HD.out)).trans HD.out))
        have R5 := Lib.hid ((hgrow5.block _ (Nat.lt_of_lt_of_le (heap_lt H0.out) (B4.out w3 MB.out).size) (fun e => by have := own_ge O.out _ e.symm; have := LQ.out; omega)).trans (((B4.out w3 MB.out).block _ (heap_lt H0.out)).trans H0.out))
        obtain ⟨A6, c6, h6⟩ := own_slice2_ hown5
        subst h6
        clear hown5 hgrow5
        refine hK.out _ _ ?_ (fun hHeld => ?_)
        · exact trivial
        clear hK K
        try simp only [List.getElem_toArray, List.getElem_cons_succ, List.getElem_cons_zero, Act.put, List.setIfInBounds_toArray, List.set_cons_zero, List.set_cons_succ]
        refine wpAnyH_take (i := 5) (v := ?_) rfl (by kernel_rfl) (by kernel_rfl) (by kernel_rfl) (fun _ _ _ h => h) (Or.inl ⟨by rfl, ?_⟩) hHeld ?_
        rotate_left
        · intro w' hSw; go_simp; try with_reducible rfl
        simp only [List.getElem_toArray, List.getElem_cons_succ, List.getElem_cons_zero, Act.put, List.setIfInBounds_toArray, List.set_cons_zero, List.set_cons_succ]
        obtain ⟨m0, m1⟩ := cell2_of C5.out
        have f0 := frozen2_of C5.out 0
        refine wpAnyH_ready (rs := [6]) (by kernel_rfl) (by simp) ?_
        refine AllReadyH.cons rfl (fun K hK => ?_) AllReadyH.nil
        rw [if_pos (by rfl)]
        go_simp
        refine hK.out _ _ ?_ (fun hHeld => ?_)
        · exact trivial
        clear hK K
        try simp only [List.getElem_toArray, List.getElem_cons_succ, List.getElem_cons_zero, Act.put, List.setIfInBounds_toArray, List.set_cons_zero, List.set_cons_succ]
        refine wpAnyH_done (by kernel_rfl) ?_ _
        have C6 := Lib.hid (heap_setA C5.out (.slice A6 (i + 1) c6))
        have R6 := Lib.hid ((heap_setFar w5 (w.heap.size + 1) 0 w.heap.size (.slice A6 (i + 1) c6) (by omega)).trans R5.out)
        have S6 := Lib.hid (secs_grown S5.out (grown_set w5 (w.heap.size + 1) 0 (.slice A6 (i + 1) c6)) LQ.out)
        have B6 := Lib.hid (below_set B5.out (Nat.le_succ w.heap.size) 0 (.slice A6 (i + 1) c6))
        have L6 := Lib.hid (Nat.le_trans L5.out (grown_set w5 (w.heap.size + 1) 0 (.slice A6 (i + 1) c6)).size)
        generalize w5.setCell ⟨w.heap.size + 1, 0, none⟩ (.slice A6 (i + 1) c6) = w6 at C6 R6 S6 B6 L6 ⊢
        clear m0 m1 f0
        go_wp2_with fail
        go_roundw
        case measure => simp [intOf]; omega
        case rel => exact ⟨i + 1, _, by omega, by go_num, C6.out, R6.out, S6.out, B6.out, Nat.le_trans HQ.out L6.out⟩
      · go_simp
        refine hK.out _ _ ?_ (fun hHeld => ?_)
        · exact trivial
        clear hK K
        try simp only [List.getElem_toArray, List.getElem_cons_succ, List.getElem_cons_zero, Act.put, List.setIfInBounds_toArray, List.set_cons_zero, List.set_cons_succ]
        generalize (wr.alloc o).drew = w3 at MR MB ⊢
        clear hmk
        refine wpAnyH_ready (rs := [1, 3]) (by kernel_rfl) (by simp) ?_
        refine AllReadyH.cons rfl (fun K hK => ?_) (AllReadyH.cons rfl (fun K hK => ?_) AllReadyH.nil)
        · obtain ⟨k0, k1⟩ := cell2_of ((MB.out.block _ (heap_lt HD.out)).trans HD.out)
          go_simp
          refine hK.out _ _ ?_ (fun hHeld => ?_)
          · exact trivial
          clear hK K
          try simp only [List.getElem_toArray, List.getElem_cons_succ, List.getElem_cons_zero, Act.put, List.setIfInBounds_toArray, List.set_cons_zero, List.set_cons_succ]
          refine wpAnyH_ready (rs := [3]) (by kernel_rfl) (by simp) ?_
          refine AllReadyH.cons rfl (fun K hK => ?_) AllReadyH.nil
          go_simp
          refine hK.out _ _ ?_ (fun hHeld => ?_)
          · exact trivial
          clear hK K
          try simp only [List.getElem_toArray, List.getElem_cons_succ, List.getElem_cons_zero, Act.put, List.setIfInBounds_toArray, List.set_cons_zero, List.set_cons_succ]
          refine wpAnyH_ready (rs := [4]) (by kernel_rfl) (by simp) ?_
          refine AllReadyH.cons rfl (fun K hK => ?_) AllReadyH.nil
          rw [if_pos (by rfl)]
          refine wp_append_any (.tmp 5) (.tmp 7) _ rfl Try.underlying26 I0.out I1.out rfl I2.out (by decide) I3.out (by decide) rfl ((owns_below O.out MB.out).alloc _) (m := 1) rfl (news := [.slice (some ⟨wr.heap.size, 0, none⟩) 128 128]) rfl (fun j u hj => by rw [World.cell?_alloc_new]; simpa using hj) (by simp [Value.oneCell']) (by omega) (Nat.le_trans HQ.out (B4.out w3 MB.out).size) ?_
          intro v5 w5 hown5 hgrow5
          have S5 := Lib.hid (secs_snoc_z (by omega) O.out YL.out E.out D.out HQ.out MB.out MR.out hown5 hgrow5)
          have B5 := Lib.hid ((HB.out.trans ((B4.out w3 MB.out).mono HB.out.size)).grown hgrow5 (Nat.le_trans HB.out.size (B4.out w3 MB.out).size) (fun k hk => by have := own_ge O.out k hk; have := LQ.out; omega))
          have L5 := Lib.hid (Nat.le_trans (B4.out w3 MB.out).size hgrow5.size)
          have C5 := Lib.hid ((hgrow5.block _ (Nat.lt_of_lt_of_le (heap_lt HD.out) (B4.out w3 MB.out).size) (fun e => by have := own_ge O.out _ e.symm; have := LQ.out; omega)).trans (((B4.out w3 MB.out).block _ (heap_lt HD.out)).trans HD.out))
          have R5 := Lib.hid ((hgrow5.block _ (Nat.lt_of_lt_of_le (heap_lt H0.out) (B4.out w3 MB.out).size) (fun e => by have := own_ge O.out _ e.symm; have := LQ.out; omega)).trans (((B4.out w3 MB.out).block _ (heap_lt H0.out)).trans H0.out))
          obtain ⟨A6, c6, h6⟩ := own_slice2_ hown5
          subst h6
          clear hown5 hgrow5
          refine hK.out _ _ ?_ (fun hHeld => ?_)
          · exact trivial
          clear hK K
          try simp only [List.getElem_toArray, List.getElem_cons_succ, List.getElem_cons_zero, Act.put, List.setIfInBounds_toArray, List.set_cons_zero, List.set_cons_succ]
          refine wpAnyH_take (i := 5) (v := ?_) rfl (by kernel_rfl) (by kernel_rfl) (by kernel_rfl) (fun _ _ _ h => h) (Or.inl ⟨by rfl, ?_⟩) hHeld ?_
          rotate_left
          · intro w' hSw; go_simp; try with_reducible rfl
          simp only [List.getElem_toArray, List.getElem_cons_succ, List.getElem_cons_zero, Act.put, List.setIfInBounds_toArray, List.set_cons_zero, List.set_cons_succ]
          obtain ⟨m0, m1⟩ := cell2_of C5.out
          have f0 := frozen2_of C5.out 0
          refine wpAnyH_ready (rs := [6]) (by kernel_rfl) (by simp) ?_
          refine AllReadyH.cons rfl (fun K hK => ?_) AllReadyH.nil
          rw [if_pos (by rfl)]
          go_simp
          refine hK.out _ _ ?_ (fun hHeld => ?_)
          · exact trivial
          clear hK K
          try simp only [List.getElem_toArray, List.getElem_cons_succ, List.getElem_cons_zero, Act.put, List.setIfInBounds_toArray, List.set_cons_zero, List.set_cons_succ]
          refine wpAnyH_done (by kernel_rfl) ?_ _
          have C6 := Lib.hid (heap_setA C5.out (.slice A6 (i + 1) c6))
          have R6 := Lib.hid ((heap_setFar w5 (w.heap.size + 1) 0 w.heap.size (.slice A6 (i + 1) c6) (by omega)).trans R5.out)
          have S6 := Lib.hid (secs_grown S5.out (grown_set w5 (w.heap.size + 1) 0 (.slice A6 (i + 1) c6)) LQ.out)
          have B6 := Lib.hid (below_set B5.out (Nat.le_succ w.heap.size) 0 (.slice A6 (i + 1) c6))
          have L6 := Lib.hid (Nat.le_trans L5.out (grown_set w5 (w.heap.size + 1) 0 (.slice A6 (i + 1) c6)).size)
          generalize w5.setCell ⟨w.heap.size + 1, 0, none⟩ (.slice A6 (i + 1) c6) = w6 at C6 R6 S6 B6 L6 ⊢
          clear m0 m1 f0
          go_wp2_with fail
          go_roundw
          case measure => simp [intOf]; omega
          case rel => exact ⟨i + 1, _, by omega, by go_num, C6.out, R6.out, S6.out, B6.out, Nat.le_trans HQ.out L6.out⟩
        · go_simp
          refine hK.out _ _ ?_ (fun hHeld => ?_)
          · exact trivial
          clear hK K
          try simp only [List.getElem_toArray, List.getElem_cons_succ, List.getElem_cons_zero, Act.put, List.setIfInBounds_toArray, List.set_cons_zero, List.set_cons_succ]
          refine wpAnyH_ready (rs := [1]) (by kernel_rfl) (by simp) ?_
          refine AllReadyH.cons rfl (fun K hK => ?_) AllReadyH.nil
          obtain ⟨k0, k1⟩ := cell2_of (((B4.out w3 MB.out).block _ (heap_lt HD.out)).trans HD.out)
          go_simp
          refine hK.out _ _ ?_ (fun hHeld => ?_)
          · exact trivial
          clear hK K
          try simp only [List.getElem_toArray, List.getElem_cons_succ, List.getElem_cons_zero, Act.put, List.setIfInBounds_toArray, List.set_cons_zero, List.set_cons_succ]
          refine wpAnyH_ready (rs := [4]) (by kernel_rfl) (by simp) ?_
          refine AllReadyH.cons rfl (fun K hK => ?_) AllReadyH.nil
          rw [if_pos (by rfl)]
          refine wp_append_any (.tmp 5) (.tmp 7) _ rfl Try.underlying26 I0.out I1.out rfl I2.out (by decide) I3.out (by decide) rfl ((owns_below O.out MB.out).alloc _) (m := 1) rfl (news := [.slice (some ⟨wr.heap.size, 0, none⟩) 128 128]) rfl (fun j u hj => by rw [World.cell?_alloc_new]; simpa using hj) (by simp [Value.oneCell']) (by omega) (Nat.le_trans HQ.out (B4.out w3 MB.out).size) ?_
          intro v5 w5 hown5 hgrow5
          have S5 := Lib.hid (secs_snoc_z (by omega) O.out YL.out E.out D.out HQ.out MB.out MR.out hown5 hgrow5)
          have B5 := Lib.hid ((HB.out.trans ((B4.out w3 MB.out).mono HB.out.size)).grown hgrow5 (Nat.le_trans HB.out.size (B4.out w3 MB.out).size) (fun k hk => by have := own_ge O.out k hk; have := LQ.out; omega))
          have L5 := Lib.hid (Nat.le_trans (B4.out w3 MB.out).size hgrow5.size)
          have C5 := Lib.hid ((hgrow5.block _ (Nat.lt_of_lt_of_le (heap_lt HD.out) (B4.out w3 MB.out).size) (fun e => by have := own_ge O.out _ e.symm; have := LQ.out; omega)).trans (((B4.out w3 MB.out).block _ (heap_lt HD.out)).trans HD.out))
          have R5 := Lib.hid ((hgrow5.block _ (Nat.lt_of_lt_of_le (heap_lt H0.out) (B4.out w3 MB.out).size) (fun e => by have := own_ge O.out _ e.symm; have := LQ.out; omega)).trans (((B4.out w3 MB.out).block _ (heap_lt H0.out)).trans H0.out))
          obtain ⟨A6, c6, h6⟩ := own_slice2_ hown5
          subst h6
          clear hown5 hgrow5
          refine hK.out _ _ ?_ (fun hHeld => ?_)
          · exact trivial
          clear hK K
          try simp only [List.getElem_toArray, List.getElem_cons_succ, List.getElem_cons_zero, Act.put, List.setIfInBounds_toArray, List.set_cons_zero, List.set_cons_succ]
          refine wpAnyH_take (i := 5) (v := ?_) rfl (by kernel_rfl) (by kernel_rfl) (by kernel_rfl) (fun _ _ _ h => h) (Or.inl ⟨by rfl, ?_⟩) hHeld ?_
          rotate_left
          · intro w' hSw; go_simp; try with_reducible rfl
          simp only [List.getElem_toArray, List.getElem_cons_succ, List.getElem_cons_zero, Act.put, List.setIfInBounds_toArray, List.set_cons_zero, List.set_cons_succ]
          obtain ⟨m0, m1⟩ := cell2_of C5.out
          have f0 := frozen2_of C5.out 0
          refine wpAnyH_ready (rs := [6]) (by kernel_rfl) (by simp) ?_
          refine AllReadyH.cons rfl (fun K hK => ?_) AllReadyH.nil
          rw [if_pos (by rfl)]
          go_simp
          refine hK.out _ _ ?_ (fun hHeld => ?_)
          · exact trivial
          clear hK K
          try simp only [List.getElem_toArray, List.getElem_cons_succ, List.getElem_cons_zero, Act.put, List.setIfInBounds_toArray, List.set_cons_zero, List.set_cons_succ]
          refine wpAnyH_done (by kernel_rfl) ?_ _
          have C6 := Lib.hid (heap_setA C5.out (.slice A6 (i + 1) c6))
          have R6 := Lib.hid ((heap_setFar w5 (w.heap.size + 1) 0 w.heap.size (.slice A6 (i + 1) c6) (by omega)).trans R5.out)
          have S6 := Lib.hid (secs_grown S5.out (grown_set w5 (w.heap.size + 1) 0 (.slice A6 (i + 1) c6)) LQ.out)
          have B6 := Lib.hid (below_set B5.out (Nat.le_succ w.heap.size) 0 (.slice A6 (i + 1) c6))
          have L6 := Lib.hid (Nat.le_trans L5.out (grown_set w5 (w.heap.size + 1) 0 (.slice A6 (i + 1) c6)).size)
          generalize w5.setCell ⟨w.heap.size + 1, 0, none⟩ (.slice A6 (i + 1) c6) = w6 at C6 R6 S6 B6 L6 ⊢
          clear m0 m1 f0
          go_wp2_with fail
          go_roundw
          case measure => simp [intOf]; omega
          case rel => exact ⟨i + 1, _, by omega, by go_num, C6.out, R6.out, S6.out, B6.out, Nat.le_trans HQ.out L6.out⟩
    · obtain rfl : i = 32 := by omega
      have hlt' : ¬ ((32 : Nat) : Int) < 32 := by omega
      have HS := Lib.hid hs
      obtain ⟨d0, d1⟩ := cell2_of hd
      obtain ⟨r0, r1⟩ := cell2_of h0
      have f0 := frozen2_of h0 0
      have f1 := frozen2_of h0 1
      clear hd h0 hb hqs hs hlt hi
      go_wp2_with fail
      have hgr := grown_set2 wr w.heap.size (.slice A 32 c) (.slice none 0 0)
      refine bodyPost_ret (v := .agg #[.slice A 32 c, .slice none 0 0]) ?_ rfl ⟨_, rfl, ?_, ?_⟩
      · exact results_cell_2 rfl _ _ w.heap.size rfl (heap_set2 H0.out _ _) Try.underlying29 infoDisk2
      · exact (secs_grown HS.out hgr (by have := LQ.out; omega)).mono (by have := LQ.out; omega)
      · exact HB.out.trans ((Below.refl _ _).grown hgr HB.out.size (fun k hk => by cases hk; exact Nat.le_refl _))
end Go.Proofs.Ytdjoflhcagfmiaa

/-
  Sync and Crash, as the program answers them.
  Conditions: none.
-/
set_option linter.unusedVariables false
set_option linter.unusedSimpArgs false
set_option maxRecDepth 100000
namespace Go.Proofs.Ytdjoflhcagfmiaa
open Go.RowKit

/-- The results of a function whose results are a struct of two cells in memory, and a slot. -/
theorem results_2_tmp {P : Program} {fn : Func} {p u : Tmp} {ty : TypeId} (h : fn.results = #[.cell p ty, .tmp u]) (tmps : Array Value) (w : World) (g : Nat) {v1 v2 : Value} {t : TypeId} {fr : Nat × Nat} (hp : tmps.getD p undef = .pointer (some ⟨g, 0, none⟩)) (hb : w.heap[g]? = some (.cells #[v1, v2] t fr))
    {fs : Array Field} (hu : P.underlying ty = some (.struct fs)) (hi : (P.info? ty).map (·.size) = some 2) (x : Value) (hx : tmps.getD u undef = x) : (results fn tmps).run P w = .ok (.tuple #[.agg #[v1, v2], x]) w := by
  have hp' : tmps[p]?.getD undef = .pointer (some ⟨g, 0, none⟩) := by simpa using hp
  rw [results_cell_tmp h, hp, hx]
  simp [asAddr, run_loadVar_row w g t ty #[v1, v2] fr _ hb hu rfl (by simpa using hi)]

/-- Two boxes more: what lies in them, and below. -/
theorem two_boxes (w : World) (o1 o2 : Obj) : ((w.alloc o1).alloc o2).heap[w.heap.size]? = some o1 ∧ ((w.alloc o1).alloc o2).heap[w.heap.size + 1]? = some o2 ∧ Below w.heap.size w ((w.alloc o1).alloc o2) := by
  refine ⟨?_, ?_, (below_new w _).alloc (by simp) _⟩
  · rw [heap_alloc_lt _ _ (by rw [heap_alloc_size]; omega)]; exact heap_alloc_self _ _
  · have := heap_alloc_self (w.alloc o1) o2
    rwa [heap_alloc_size] at this
/-- The struct of noughts in a box, and the same stored into it. -/
theorem zero_kept {W : World} {b : Nat} (h : W.heap[b]? = some (.cells #[.slice none 0 0, .slice none 0 0] 29 (0, 0))) : ((W.setCell ⟨b, 0, none⟩ (.slice none 0 0)).setCell ⟨b, 1, none⟩ (.slice none 0 0)).heap[b]? = some (.cells #[.slice none 0 0, .slice none 0 0] 29 (0, 0)) := heap_set2 h _ _
theorem below_set2 {B b : Nat} {w W : World} (h : Below B w W) (hb : B ≤ b) (x y : Value) : Below B w ((W.setCell ⟨b, 0, none⟩ x).setCell ⟨b, 1, none⟩ y) := below_set (below_set h hb 0 x) hb 1 y

def syncE (ss : List Bs) (ws : List Wr) : Int := if mayB ss ws then 0 else 8
def syncS (ss : List Bs) (ws : List Wr) : List Bs := if mayB ss ws then comes ss ws (all128 ws) else []

set_option maxHeartbeats 1000000 in
theorem sync_any (d : Value) (ss : List Bs) (ws : List Wr) (w : World) (h : DiskIn w w.heap.size d ss ws) :
    Calls Try.prog 30 #[d] w fun e w' => ∃ d', e = .returned (.tuple #[d', .int .i64 (syncE ss ws)]) ∧ DiskAt w' w.heap.size d' (syncS ss ws) [] ∧ Below w.heap.size w w' := by
  obtain ⟨v1, v2, rfl, h1, h2⟩ := id h
  have H := Lib.hid h
  clear h1 h2 h
  have hq := two_boxes w (.cells #[v1, v2] 29) (.cells #[.slice none 0 0, .slice none 0 0] 29)
  go_enter Try.func30, Try.ntmps30
  go_wp2_with fail
  generalize (w.alloc (.cells #[v1, v2] 29)).alloc (.cells #[.slice none 0 0, .slice none 0 0] 29) = q at hq ⊢
  obtain ⟨q0, q1, qb⟩ := hq
  have QB := Lib.hid qb
  refine (check_any _ ss ws q ((H.out.below QB.out).more QB.out.size)).mono ?_
  rintro e w1 ⟨rfl, b1⟩
  have B1 := Lib.hid (QB.out.trans (b1.mono QB.out.size))
  have C0 := Lib.hid ((b1.block _ (heap_lt q0)).trans q0)
  have C1 := Lib.hid ((b1.block _ (heap_lt q1)).trans q1)
  clear q0 q1 qb b1 QB
  obtain ⟨k0, k1⟩ := cell2_of C0.out
  obtain ⟨r0, r1⟩ := cell2_of C1.out
  have f0 := frozen2_of C1.out 0
  have f1 := frozen2_of C1.out 1
  cases hm : mayB ss ws with
  | false =>
    have HM := Lib.hid hm
    simp only [Bool.false_eq_true, ↓reduceIte]
    clear hm
    go_wp2_with fail
    refine bodyPost_ret (v := .tuple #[.agg #[.slice none 0 0, .slice none 0 0], .int .i64 8]) ?_ rfl ⟨_, by rw [syncE, HM.out]; rfl, ?_, below_set2 B1.out (by omega) _ _⟩
    · exact results_2_tmp rfl _ _ (w.heap.size + 1) rfl (zero_kept C1.out) Try.underlying29 infoDisk2 _ rfl
    · rw [syncS, HM.out]; exact DiskAt.nil_ _ _
  | true =>
    have HM := Lib.hid hm
    simp only [↓reduceIte]
    clear hm
    go_wp2_with fail
    refine (come_whole _ ss ws (all128 ws) w1 ((H.out.below B1.out).more B1.out.size) (mayB_iff.1 HM.out) (by simp [all128]) (fun k hk => by rw [List.eq_of_mem_replicate hk]; omega) (fun i hi => by
      rw [List.getD_eq_getElem?_getD, List.getElem?_eq_getElem hi]; simp [all128])).mono ?_
    rintro e w2 ⟨y1, rfl, hs, b2⟩
    obtain ⟨A2, c2, rfl⟩ := secs_slice hs
    have S2 := Lib.hid hs
    have B2 := Lib.hid (B1.out.trans (b2.mono B1.out.size))
    have C2 := Lib.hid ((b2.block _ (heap_lt C1.out)).trans C1.out)
    have L2 := Lib.hid (heap_lt C1.out)
    clear hs b2 k0 k1 r0 r1 f0 f1
    obtain ⟨r0, r1⟩ := cell2_of C2.out
    have f0 := frozen2_of C2.out 0
    have f1 := frozen2_of C2.out 1
    go_wp2_with fail
    refine bodyPost_ret (v := .tuple #[.agg #[.slice A2 (comes ss ws (all128 ws)).length c2, .slice none 0 0], .int .i64 0]) ?_ rfl ⟨_, by rw [syncE, HM.out]; rfl, ?_, below_set2 B2.out (by omega) _ _⟩
    · exact results_2_tmp rfl _ _ (w.heap.size + 1) rfl (heap_set2 C2.out _ _) Try.underlying29 infoDisk2 _ rfl
    · rw [syncS, HM.out]; exact ⟨_, _, rfl, (secs_grown S2.out (grown_set2 w2 (w.heap.size + 1) _ _) L2.out).mono (Nat.le_trans (Nat.le_succ _) (Nat.le_of_lt L2.out)), WtsAt.nil_ _ _⟩
end Go.Proofs.Ytdjoflhcagfmiaa

/-
  Crash, as the program answers it.
  Conditions: none.
-/
set_option linter.unusedVariables false
set_option linter.unusedSimpArgs false
set_option maxRecDepth 100000
namespace Go.Proofs.Ytdjoflhcagfmiaa
open Go.RowKit

theorem three_boxes (w : World) (o1 o2 o3 : Obj) : (((w.alloc o1).alloc o2).alloc o3).heap[w.heap.size]? = some o1 ∧ (((w.alloc o1).alloc o2).alloc o3).heap[w.heap.size + 1]? = some o2 ∧ (((w.alloc o1).alloc o2).alloc o3).heap[w.heap.size + 2]? = some o3 ∧ Below w.heap.size w (((w.alloc o1).alloc o2).alloc o3) := by
  obtain ⟨h1, h2, h3⟩ := two_boxes w o1 o2
  refine ⟨(heap_alloc_lt _ _ (heap_lt h1)).trans h1, (heap_alloc_lt _ _ (heap_lt h2)).trans h2, ?_, h3.alloc h3.size _⟩
  have := heap_alloc_self ((w.alloc o1).alloc o2) o3
  rwa [heap_alloc_size, heap_alloc_size] at this

theorem NumsIn.more {W : World} {B B' : Nat} {v : Value} {ks : List Int} (h : NumsIn W B v ks) (hB : B ≤ B') : NumsIn W B' v ks := by
  obtain ⟨A, cap, h0, h1, h2, hn, h3⟩ := h
  refine ⟨A, cap, h0, h1, h2, hn, fun hp => ?_⟩
  obtain ⟨b, off, ha, hlt, hc⟩ := h3 hp
  exact ⟨b, off, ha, by omega, hc⟩

def fitK (k : Int) : Prop := 0 ≤ k ∧ k < 129
instance (k : Int) : Decidable (fitK k) := inferInstanceAs (Decidable (_ ∧ _))
def crashE (ss : List Bs) (ws : List Wr) (ks : List Int) : Int := if mayB ss ws then (if ks.length = ws.length then (if ∀ k ∈ ks, fitK k then 0 else 2) else 4) else 8
def crashS (ss : List Bs) (ws : List Wr) (ks : List Int) : List Bs := if crashE ss ws ks = 0 then comes ss ws (ks.map Int.toNat) else []
theorem crashE_zero {ss : List Bs} {ws : List Wr} {ks : List Int} (h1 : May ss ws) (h2 : ks.length = ws.length) (h3 : ∀ k ∈ ks, fitK k) : crashE ss ws ks = 0 := by
  rw [crashE, if_pos (mayB_iff.2 h1), if_pos h2, if_pos h3]
theorem crashE_may {ss : List Bs} {ws : List Wr} {ks : List Int} (h : crashE ss ws ks = 0) : May ss ws ∧ ks.length = ws.length ∧ ∀ k ∈ ks, fitK k := by
  unfold crashE at h
  split at h
  · rename_i h1
    split at h
    · rename_i h2
      split at h
      · rename_i h3; exact ⟨mayB_iff.1 h1, h2, h3⟩
      · cases h
    · cases h
  · cases h
theorem toNat_ofNat {ks : List Int} (h : ∀ k ∈ ks, fitK k) : (ks.map Int.toNat).map Int.ofNat = ks := by
  rw [List.map_map]
  exact (List.map_congr_left (g := id) (fun k hk => by
    have := (h k hk).1
    show ((k.toNat : Nat) : Int) = k
    omega)).trans (List.map_id ks)

set_option maxHeartbeats 1000000 in
theorem crash_any (d kv : Value) (ss : List Bs) (ws : List Wr) (ks : List Int) (w : World) (h : DiskIn w w.heap.size d ss ws) (hk : NumsIn w w.heap.size kv ks) :
    Calls Try.prog 29 #[d, kv] w fun e w' => ∃ d', e = .returned (.tuple #[d', .int .i64 (crashE ss ws ks)]) ∧ DiskAt w' w.heap.size d' (crashS ss ws ks) [] ∧ Below w.heap.size w w' := by
  obtain ⟨v1, v2, rfl, h1, h2⟩ := id h
  have H := Lib.hid h
  have K := Lib.hid hk
  obtain ⟨A2, c2, rfl, -, -, -, -⟩ := h2
  obtain ⟨A3, c3, rfl, -, -, -, -⟩ := hk
  clear h1 h
  have hmf : ∀ (fn : Fn) (first cap : Array Value) (w : World), (Instr.makeFunc fn first cap).run Try.prog w = .ok (.func fn first cap) w := fun _ _ _ _ => rfl
  have hq := three_boxes w (.cells #[v1, .slice A2 ws.length c2] 29) (.cells #[.slice A3 ks.length c3] 64) (.cells #[.slice none 0 0, .slice none 0 0] 29)
  go_enter Try.func29, Try.ntmps29
  go_wp2_with fail
  generalize ((w.alloc (.cells #[v1, .slice A2 ws.length c2] 29)).alloc (.cells #[.slice A3 ks.length c3] 64)).alloc (.cells #[.slice none 0 0, .slice none 0 0] 29) = q at hq ⊢
  obtain ⟨q0, q1, q2, qb⟩ := hq
  have QB := Lib.hid qb
  refine (check_any _ ss ws q ((H.out.below QB.out).more QB.out.size)).mono ?_
  rintro e w1 ⟨rfl, b1⟩
  have B1 := Lib.hid (QB.out.trans (b1.mono QB.out.size))
  have C0 := Lib.hid ((b1.block _ (heap_lt q0)).trans q0)
  have C1 : Hid (Boxed w1 (w.heap.size + 1) 64 (.slice A3 ks.length c3)) := Lib.hid ((b1.block _ (heap_lt q1)).trans q1)
  have C2 := Lib.hid ((b1.block _ (heap_lt q2)).trans q2)
  clear q0 q1 q2 qb b1 QB
  obtain ⟨k0, k1⟩ := cell2_of C0.out
  have k2 := C1.out.cell
  obtain ⟨r0, r1⟩ := cell2_of C2.out
  have f0 := frozen2_of C2.out 0
  have f1 := frozen2_of C2.out 1
  cases hm : mayB ss ws with
  | false =>
    have HE : Hid (crashE ss ws ks = 8) := Lib.hid (by rw [crashE, hm]; rfl)
    simp only [Bool.false_eq_true, ↓reduceIte]
    clear hm
    go_wp2_with fail
    refine bodyPost_ret (v := .tuple #[.agg #[.slice none 0 0, .slice none 0 0], .int .i64 8]) ?_ rfl ⟨_, by rw [HE.out], ?_, below_set2 B1.out (by omega) _ _⟩
    · exact results_2_tmp rfl _ _ (w.heap.size + 2) rfl (zero_kept C2.out) Try.underlying29 infoDisk2 _ rfl
    · rw [crashS, HE.out]; exact DiskAt.nil_ _ _
  | true =>
    have HM := Lib.hid hm
    simp only [↓reduceIte]
    by_cases hl : ks.length = ws.length
    · have HL := Lib.hid hl
      have hl' : (ks.length : Int) = ws.length := by omega
      have hlb : ((ks.length : Int) != ws.length) = false := by rw [bne_eq_false_iff_eq]; exact hl'
      have hn : Hid (ks.length ≤ 256) := Lib.hid (by rw [hl]; exact (mayB_iff.1 hm).m)
      have hn' : (ks.length : Int) ≤ 256 := by have := hn.out; omega
      clear hm hl hl'
      go_wp2_with fail
      go_loopw [24] (fun s24 wr => ∃ i : Nat, i ≤ ks.length ∧ s24 = .int .i64 i ∧ Hid (∀ j (h : j < ks.length), j < i → fitK ks[j]) ∧ wr = w1) (fun s24 _ => ks.length - (intOf s24).toNat)
      case atStart => exact ⟨0, by omega, rfl, Lib.hid (fun j h h' => absurd h' (by omega)), by first | rfl | trivial⟩
      case round =>
        obtain ⟨i, hi, rfl, hall, rfl⟩ := hrel
        by_cases hlt : i < ks.length
        · have hlt' : (i : Int) < ks.length := by omega
          obtain ⟨b, off, rfl, hbb, hc⟩ := (K.out.below B1.out).at hlt
          by_cases ha : 0 ≤ ks[i] ∧ ks[i] < 129
          · have hda : decide (0 ≤ ks[i] ∧ ks[i] < 129) = true := decide_eq_true ha
            have HA := Lib.hid (show fitK ks[i] from ha)
            clear ha
            go_wp2_with (refine (below_any _ _ _).mono ?_; rintro e w' ⟨rfl, rfl⟩)
            go_roundw
            case measure => simp [intOf]; omega
            case rel => exact ⟨i + 1, by omega, by go_num, Lib.hid (fun j h h' => by
              rcases Nat.lt_or_ge j i with h2 | h2
              · exact hall.out j h h2
              · obtain rfl : j = i := by omega
                exact HA.out), by first | rfl | trivial⟩
          · have hda : decide (0 ≤ ks[i] ∧ ks[i] < 129) = false := decide_eq_false ha
            have HE : Hid (crashE ss ws ks = 2) := Lib.hid (by rw [crashE, HM.out, if_pos rfl, if_pos HL.out, if_neg (fun h => ha (h _ (List.getElem_mem hlt)))])
            clear ha
            go_wp2_with (refine (below_any _ _ _).mono ?_; rintro e w' ⟨rfl, rfl⟩)
            refine bodyPost_ret (v := .tuple #[.agg #[.slice none 0 0, .slice none 0 0], .int .i64 2]) ?_ rfl ⟨_, by rw [HE.out], ?_, below_set2 B1.out (by omega) _ _⟩
            · exact results_2_tmp rfl _ _ (w.heap.size + 2) rfl (zero_kept C2.out) Try.underlying29 infoDisk2 _ rfl
            · rw [crashS, HE.out]; exact DiskAt.nil_ _ _
        · have hlt' : ¬ ((i : Int) < ks.length) := by omega
          have hfit : ∀ k ∈ ks, fitK k := fun k hk => by
            obtain ⟨j, hj, rfl⟩ := List.mem_iff_getElem.1 hk
            exact hall.out j hj (by omega)
          have HE := Lib.hid (crashE_zero (mayB_iff.1 HM.out) HL.out hfit)
          have hcome := come_kept (.agg #[v1, .slice A2 ws.length c2]) ss ws (ks.map Int.toNat) wr ((H.out.below B1.out).more B1.out.size) (mayB_iff.1 HM.out) (by rw [List.length_map]; exact HL.out) (fun k hk => by
            obtain ⟨z, hz, rfl⟩ := List.mem_map.1 hk
            have := hfit z hz
            unfold fitK at this
            omega) (w.heap.size + 1) _ C1.out (by rw [toNat_ofNat hfit]; exact (K.out.below B1.out).more B1.out.size)
          have HC := Lib.hid hcome
          clear hcome hfit hall
          go_wp2_with fail
          refine HC.out.mono ?_
          rintro e w2 ⟨y1, rfl, hs, b2⟩
          obtain ⟨A4, c4, rfl⟩ := secs_slice hs
          have S2 := Lib.hid hs
          have B2 := Lib.hid (B1.out.trans (b2.mono B1.out.size))
          have C4 := Lib.hid ((b2.block _ (heap_lt C2.out)).trans C2.out)
          have L2 := Lib.hid (heap_lt C2.out)
          clear hs b2 k0 k1 k2 r0 r1 f0 f1
          obtain ⟨r0, r1⟩ := cell2_of C4.out
          have f0 := frozen2_of C4.out 0
          have f1 := frozen2_of C4.out 1
          go_wp2_with fail
          refine bodyPost_ret (v := .tuple #[.agg #[.slice A4 (comes ss ws (ks.map Int.toNat)).length c4, .slice none 0 0], .int .i64 0]) ?_ rfl ⟨_, by rw [HE.out], ?_, below_set2 B2.out (by omega) _ _⟩
          · exact results_2_tmp rfl _ _ (w.heap.size + 2) rfl (heap_set2 C4.out _ _) Try.underlying29 infoDisk2 _ rfl
          · rw [crashS, HE.out]; exact ⟨_, _, rfl, (secs_grown S2.out (grown_set2 w2 (w.heap.size + 2) _ _) L2.out).mono (by have := L2.out; omega), WtsAt.nil_ _ _⟩
    · have hl' : ¬ (ks.length : Int) = ws.length := by omega
      have hlb : ((ks.length : Int) == ws.length) = false := by rw [beq_eq_false_iff_ne]; exact hl'
      have HE : Hid (crashE ss ws ks = 4) := Lib.hid (by rw [crashE, hm, if_pos rfl, if_neg hl])
      clear hm hl
      go_wp2_with fail
      refine bodyPost_ret (v := .tuple #[.agg #[.slice none 0 0, .slice none 0 0], .int .i64 4]) ?_ rfl ⟨_, by rw [HE.out], ?_, below_set2 B1.out (by omega) _ _⟩
      · exact results_2_tmp rfl _ _ (w.heap.size + 2) rfl (zero_kept C2.out) Try.underlying29 infoDisk2 _ rfl
      · rw [crashS, HE.out]; exact DiskAt.nil_ _ _
end Go.Proofs.Ytdjoflhcagfmiaa

/-
  A disk's copy: its sectors lie apart from what its writes hold.
  Conditions: at most 1,000 sectors and writes, none of more than 1,000,000 bytes.
-/
set_option linter.unusedVariables false
set_option linter.unusedSimpArgs false
set_option maxRecDepth 100000
namespace Go.Proofs.Ytdjoflhcagfmiaa
open Go.RowKit

theorem SecsAt.low {W : World} {lo : Nat} {v : Value} {ss : List Bs} (h : SecsAt W lo v ss) : ∀ (b n c : Nat), v = .slice (some ⟨b, 0, none⟩) n c → 0 < ss.length → lo ≤ b ∧ b < W.heap.size := by
  intro b n c e _
  obtain ⟨ys, ho, _⟩ := h
  exact ho.lt b (by rw [e]; rfl)
theorem SecsAt.cell_lt {W : World} {lo : Nat} {v : Value} {ss : List Bs} (h : SecsAt W lo v ss) : ∀ (b n c j g len cap : Nat), v = .slice (some ⟨b, 0, none⟩) n c → j < ss.length → W.cell? ⟨b, j, none⟩ = some (.slice (some ⟨g, 0, none⟩) len cap) → g < W.heap.size := by
  intro b n c j g len cap e hj hc
  obtain ⟨ys, ho, hl, hm, he, hd⟩ := h
  subst e
  have ho' := ho
  rcases ho.2 with ⟨e, _⟩ | ⟨b', cap', cur, e, _⟩
  · cases e
  · cases e
    have hy : ys[j]? = some ys[j] := List.getElem?_eq_getElem (by omega)
    rw [ho'.cellAt j (by omega), hy] at hc
    have h1 := (he j _ _ hy (List.getElem?_eq_getElem hj)).1
    exact (h1.lt g (by rw [Option.some.inj hc]; rfl)).2

set_option maxHeartbeats 1000000 in
theorem twin_apart (d : Value) (ss : List Bs) (ws : List Wr) (w : World) {B : Nat} (hB : B ≤ w.heap.size) (h : DiskIn w B d ss ws) (hf : Fits ss ws) :
    Calls Try.prog 47 #[d] w fun e w' => ∃ v1 v2 m, e = .returned (.agg #[v1, v2]) ∧ SecsAt w' w.heap.size v1 ss ∧ WtsAt w' m v2 ws ∧ w.heap.size ≤ m ∧ (∀ (b n c j g len cap : Nat), v1 = .slice (some ⟨b, 0, none⟩) n c → j < ss.length → w'.cell? ⟨b, j, none⟩ = some (.slice (some ⟨g, 0, none⟩) len cap) → g < m) ∧ Below w.heap.size w w' ∧ m ≤ w'.heap.size := by
  obtain ⟨v1, v2, rfl, h1, h2⟩ := h
  have H1 := Lib.hid h1
  have H2 := Lib.hid h2
  have HF := Lib.hid hf
  clear h1 h2 hf
  have HB0 : Hid (Below w.heap.size w ((w.alloc (.cells #[v1, v2] 29)).alloc (.cells #[.slice none 0 0, .slice none 0 0] 29))) := Lib.hid ((below_new w _).alloc (by simp) _)
  have hc1 : ((w.alloc (.cells #[v1, v2] 29)).alloc (.cells #[.slice none 0 0, .slice none 0 0] 29)).heap[w.heap.size]? = some (.cells #[v1, v2] 29 (0, 0)) := by
    rw [heap_alloc_lt _ _ (by rw [heap_alloc_size]; omega)]; exact heap_alloc_self _ _
  have hc2 : ((w.alloc (.cells #[v1, v2] 29)).alloc (.cells #[.slice none 0 0, .slice none 0 0] 29)).heap[w.heap.size + 1]? = some (.cells #[.slice none 0 0, .slice none 0 0] 29 (0, 0)) := by
    have := heap_alloc_self (w.alloc (.cells #[v1, v2] 29)) (.cells #[.slice none 0 0, .slice none 0 0] 29)
    rwa [heap_alloc_size] at this
  go_enter Try.func47, Try.ntmps47
  go_wp2_with fail
  generalize (w.alloc (.cells #[v1, v2] 29)).alloc (.cells #[.slice none 0 0, .slice none 0 0] 29) = q at HB0 hc1 hc2 ⊢
  have C1 := Lib.hid hc1
  have C2 := Lib.hid hc2
  have R0 : Hid (Below w.heap.size w q.drew) := Lib.hid (HB0.out.drew)
  have R1 : Hid (Below q.heap.size q q.drew) := Lib.hid (Below.refl _ q).drew
  clear hc1 hc2
  refine wp_region_held_drew (S := fun v => v.heap[w.heap.size]? = some (.cells #[v1, v2] 29 (0, 0))) (by kernel_rfl) ?_ (fun hHeld => ?_)
  · exact C1.out
  refine wpAnyH_take (i := 0) (v := ?_) rfl (by kernel_rfl) (by kernel_rfl) (by kernel_rfl) (fun _ _ _ h => h) (Or.inl ⟨by rfl, ?_⟩) hHeld ?_
  rotate_left
  · intro w' hSw; go_simp; try with_reducible rfl
  simp only [List.getElem_toArray, List.getElem_cons_succ, List.getElem_cons_zero, Act.put, List.setIfInBounds_toArray, List.set_cons_zero, List.set_cons_succ]
  refine wpAnyH_take (i := 1) (v := ?_) rfl (by kernel_rfl) (by kernel_rfl) (by kernel_rfl) (fun _ _ _ h => h) (Or.inl ⟨by rfl, ?_⟩) hHeld ?_
  rotate_left
  · intro w' hSw; obtain ⟨c0, c1⟩ := cell2_of hSw; go_simp; try with_reducible rfl
  simp only [List.getElem_toArray, List.getElem_cons_succ, List.getElem_cons_zero, Act.put, List.setIfInBounds_toArray, List.set_cons_zero, List.set_cons_succ]
  refine wpAnyH_take (i := 3) (v := ?_) rfl (by kernel_rfl) (by kernel_rfl) (by kernel_rfl) (fun _ _ _ h => h) (Or.inl ⟨by rfl, ?_⟩) hHeld ?_
  rotate_left
  · intro w' hSw; go_simp; try with_reducible rfl
  simp only [List.getElem_toArray, List.getElem_cons_succ, List.getElem_cons_zero, Act.put, List.setIfInBounds_toArray, List.set_cons_zero, List.set_cons_succ]
  refine wpAnyH_take (i := 4) (v := ?_) rfl (by kernel_rfl) (by kernel_rfl) (by kernel_rfl) (fun _ _ _ h => h) (Or.inl ⟨by rfl, ?_⟩) hHeld ?_
  rotate_left
  · intro w' hSw; obtain ⟨c0, c1⟩ := cell2_of hSw; go_simp; try with_reducible rfl
  simp only [List.getElem_toArray, List.getElem_cons_succ, List.getElem_cons_zero, Act.put, List.setIfInBounds_toArray, List.set_cons_zero, List.set_cons_succ]
  refine wpAnyH_ready (rs := [2]) (by kernel_rfl) (by simp) ?_
  refine AllReadyH.cons rfl (fun K hK => ?_) AllReadyH.nil
  go_simp
  refine (copied_secs _ ss q.drew (B := B) (Nat.le_trans hB R0.out.size) (H1.out.below (R0.out.mono hB)) HF.out.n HF.out.s).mono ?_
  rintro e wA ⟨y1, rfl, hoA, bA⟩
  have OA := Lib.hid hoA
  have BA := Lib.hid bA
  have R2 := Lib.hid (R1.out.trans (bA.mono R1.out.size))
  have R3 := Lib.hid (R0.out.trans (bA.mono R0.out.size))
  obtain ⟨A9, c9, rfl⟩ := secs_slice hoA
  clear hoA bA
  try go_wp2_with fail
  refine hK.out _ _ ?_ (fun hHeld => ?_)
  · exact (R2.out.block _ (heap_lt C1.out)).trans C1.out
  clear hK K
  try simp only [List.getElem_toArray, List.getElem_cons_succ, List.getElem_cons_zero, Act.put, List.setIfInBounds_toArray, List.set_cons_zero, List.set_cons_succ]
  refine wpAnyH_ready (rs := [5]) (by kernel_rfl) (by simp) ?_
  refine AllReadyH.cons rfl (fun K hK => ?_) AllReadyH.nil
  go_simp
  refine (copied_wts _ ws wA (B := B) (Nat.le_trans hB R3.out.size) (H2.out.below (R3.out.mono hB)) HF.out.m HF.out.w).mono ?_
  rintro e wB ⟨y2, rfl, hoB, bB⟩
  have OB := Lib.hid hoB
  have R4 := Lib.hid (R2.out.trans (bB.mono R2.out.size))
  have OA2 := Lib.hid (OA.out.below bB)
  obtain ⟨A8, c8, rfl⟩ := wts_slice hoB
  have BB := Lib.hid bB
  clear hoB bB
  try go_wp2_with fail
  refine hK.out _ _ ?_ (fun hHeld => ?_)
  · exact (R4.out.block _ (heap_lt C1.out)).trans C1.out
  clear hK K
  try simp only [List.getElem_toArray, List.getElem_cons_succ, List.getElem_cons_zero, Act.put, List.setIfInBounds_toArray, List.set_cons_zero, List.set_cons_succ]
  refine wpAnyH_take (i := 6) (v := ?_) rfl (by kernel_rfl) (by kernel_rfl) (by kernel_rfl) (fun _ _ _ h => h) (Or.inl ⟨by rfl, ?_⟩) hHeld ?_
  rotate_left
  · intro w' hSw; go_simp; try with_reducible rfl
  simp only [List.getElem_toArray, List.getElem_cons_succ, List.getElem_cons_zero, Act.put, List.setIfInBounds_toArray, List.set_cons_zero, List.set_cons_succ]
  have C3 := Lib.hid ((R4.out.block _ (heap_lt C2.out)).trans C2.out)
  refine wpAnyH_ready (rs := [7]) (by kernel_rfl) (by simp) ?_
  refine AllReadyH.cons rfl (fun K hK => ?_) AllReadyH.nil
  rw [if_pos (by rfl)]
  refine wp_store_2 29 _ _ rfl (w.heap.size + 1) rfl rfl C3.out infoDisk2 rfl rfl ?_
  refine hK.out _ _ ?_ (fun hHeld => ?_)
  · exact (setRow_other _ _ _ _ (by omega)).trans hHeld
  clear hK K
  try simp only [List.getElem_toArray, List.getElem_cons_succ, List.getElem_cons_zero, Act.put, List.setIfInBounds_toArray, List.set_cons_zero, List.set_cons_succ]
  refine wpAnyH_done (by kernel_rfl) ?_ _
  have hall := Lib.hid (HB0.out.trans (R4.out.mono HB0.out.size))
  have hcell := Lib.hid (setRow_heap _ _ _ #[.slice A9 ss.length c9, .slice A8 ws.length c8] _ _ C3.out)
  have S1 := Lib.hid (secs_setRow OA2.out (g := w.heap.size + 1) (by have := heap_lt C2.out; exact this) #[.slice A9 ss.length c9, .slice A8 ws.length c8])
  have S2 := Lib.hid (wts_setRow OB.out (g := w.heap.size + 1) (by have := heap_lt C2.out; have := R2.out.size; omega) #[.slice A9 ss.length c9, .slice A8 ws.length c8])
  clear R1
  go_wp2_with fail
  refine bodyPost_ret (v := .agg #[.slice A9 ss.length c9, .slice A8 ws.length c8]) ?_ rfl ⟨_, _, wA.heap.size, rfl, S1.out.mono R0.out.size, S2.out, R3.out.size, ?_, ?_, ?_⟩
  · exact results_cell_2 rfl _ _ (w.heap.size + 1) rfl hcell.out Try.underlying29 infoDisk2
  · intro b n c j g len cap e hj hc
    have hlow := SecsAt.low OA.out _ _ _ e (by omega)
    have hq : w.heap.size + 1 < q.drew.heap.size := heap_lt C2.out
    have hc2 : wA.cell? ⟨b, j, none⟩ = some (.slice (some ⟨g, 0, none⟩) len cap) := by
      rw [cell_setRow_other _ _ _ _ (by show b ≠ w.heap.size + 1; omega)] at hc
      rw [← hc]
      exact (BB.out.cell (p := ⟨b, j, none⟩) hlow.2).symm
    exact SecsAt.cell_lt OA.out _ _ _ _ _ _ _ e hj hc2
  · exact below_setRow hall.out (by omega) _
  · have := BB.out.size; simpa [World.setRow] using this
end Go.Proofs.Ytdjoflhcagfmiaa

/-
  Spoil, as the program answers it.
  Conditions: none.
-/
set_option linter.unusedVariables false
set_option linter.unusedSimpArgs false
set_option maxRecDepth 100000
namespace Go.Proofs.Ytdjoflhcagfmiaa
open Go.RowKit

theorem wts_grown {W W' : World} {lo b : Nat} {v : Value} {ws : List Wr} (h : WtsAt W lo v ws) (hg : W.grownBy W' (some b)) (hb : b < lo) : WtsAt W' lo v ws := by
  obtain ⟨ys, ho, hl, hm, he⟩ := h
  have ap : ∀ {e size n : Nat} {v : Value} {xs : List Value}, W.ownsRow lo e size v n xs → v.ownBlock = none ∨ v.ownBlock ≠ some b := fun h => by
    cases hv : Value.ownBlock _ with
    | none => exact .inl rfl
    | some g => exact .inr (fun e1 => by cases e1; have := (h.lt b hv).1; omega)
  exact ⟨ys, ho.kept hg (ap ho), hl, hm, fun j y s h1 h2 => ⟨(he j y s h1 h2).1.kept hg (ap (he j y s h1 h2).1), (he j y s h1 h2).2⟩⟩

def spoilE (ss : List Bs) (ws : List Wr) (n k : Int) : Int := if atE ss ws n = 0 then (if 0 ≤ k ∧ k < 128 then 0 else 2) else atE ss ws n
def turned (ss : List Bs) (n k : Nat) (x : UInt8) : List Bs := ss.modify n fun s => s.modify k fun b => b ^^^ x
def spoilS (ss : List Bs) (ws : List Wr) (n k : Int) (x : UInt8) : List Bs := if spoilE ss ws n k = 0 then turned ss n.toNat k.toNat x else []
def spoilW (ss : List Bs) (ws : List Wr) (n k : Int) : List Wr := if spoilE ss ws n k = 0 then ws else []
theorem atE_may {ss : List Bs} {ws : List Wr} {n : Int} (h : atE ss ws n = 0) : May ss ws ∧ 0 ≤ n ∧ n < 32 := by
  unfold atE at h
  split at h
  · rename_i h1
    split at h
    · rename_i h2; exact ⟨mayB_iff.1 h1, h2⟩
    · cases h
  · cases h
theorem atE_cases (ss : List Bs) (ws : List Wr) (n : Int) : atE ss ws n = 0 ∨ (atE ss ws n = 2 ∨ atE ss ws n = 8) := by
  unfold atE
  split
  · split
    · exact .inl rfl
    · exact .inr (.inl rfl)
  · exact .inr (.inr rfl)
set_option maxRecDepth 100000 in
set_option maxHeartbeats 1000000 in
theorem spoil_any (d : Value) (ss : List Bs) (ws : List Wr) (n k : Int) (x : UInt8) (w : World) (h : DiskIn w w.heap.size d ss ws) :
    Calls Try.prog 25 #[d, .int .i64 n, .int .i64 k, .int .u8 (x.toNat : Int)] w fun e w' => ∃ d', e = .returned (.tuple #[d', .int .i64 (spoilE ss ws n k)]) ∧ DiskAt w' w.heap.size d' (spoilS ss ws n k x) (spoilW ss ws n k) ∧ Below w.heap.size w w' := by
  obtain ⟨v1, v2, rfl, h1, h2⟩ := id h
  have H := Lib.hid h
  clear h1 h2 h
  have hq := two_boxes w (.cells #[v1, v2] 29) (.cells #[.slice none 0 0, .slice none 0 0] 29)
  go_enter Try.func25, Try.ntmps25
  go_wp2_with fail
  generalize (w.alloc (.cells #[v1, v2] 29)).alloc (.cells #[.slice none 0 0, .slice none 0 0] 29) = q at hq ⊢
  obtain ⟨q0, q1, qb⟩ := hq
  have QB := Lib.hid qb
  refine (checkAt_any _ ss ws n q ((H.out.below QB.out).more QB.out.size)).mono ?_
  rintro e w1 ⟨rfl, b1⟩
  have B1 := Lib.hid (QB.out.trans (b1.mono QB.out.size))
  have C0 := Lib.hid ((b1.block _ (heap_lt q0)).trans q0)
  have C1 := Lib.hid ((b1.block _ (heap_lt q1)).trans q1)
  clear q0 q1 qb b1 QB
  obtain ⟨k0, k1⟩ := cell2_of C0.out
  obtain ⟨r0, r1⟩ := cell2_of C1.out
  have f0 := frozen2_of C1.out 0
  have f1 := frozen2_of C1.out 1
  have bad : ∀ r : Int, spoilE ss ws n k = r → r ≠ 0 → ∃ d', Ending.returned (.tuple #[.agg #[.slice none 0 0, .slice none 0 0], .int .i64 r]) = .returned (.tuple #[d', .int .i64 (spoilE ss ws n k)]) ∧ DiskAt ((w1.setCell ⟨w.heap.size + 1, 0, none⟩ (.slice none 0 0)).setCell ⟨w.heap.size + 1, 1, none⟩ (.slice none 0 0)) w.heap.size d' (spoilS ss ws n k x) (spoilW ss ws n k) ∧ Below w.heap.size w ((w1.setCell ⟨w.heap.size + 1, 0, none⟩ (.slice none 0 0)).setCell ⟨w.heap.size + 1, 1, none⟩ (.slice none 0 0)) := fun r h h0 =>
    ⟨_, by rw [h], by rw [spoilS, spoilW, h, if_neg h0, if_neg h0]; exact DiskAt.nil_ _ _, below_set2 B1.out (by omega) _ _⟩
  have BAD := Lib.hid bad
  clear bad
  by_cases hm : atE ss ws n = 0
  · have HM := Lib.hid (atE_may hm)
    rw [hm]
    by_cases ha : 0 ≤ k ∧ k < 128
    · have hda : decide (0 ≤ k ∧ k < 128) = true := decide_eq_true ha
      have HE : Hid (spoilE ss ws n k = 0) := Lib.hid (by rw [spoilE, if_pos hm, if_pos ha])
      obtain ⟨i, hi⟩ : ∃ i : Nat, n = (i : Int) := ⟨n.toNat, by have := HM.out.2.1; omega⟩
      obtain ⟨j, hj⟩ : ∃ j : Nat, k = (j : Int) := ⟨k.toNat, by omega⟩
      subst hi hj
      have hj1 : (j : Int) < 128 := ha.2
      have hi1 : (i : Int) < 32 := HM.out.2.2
      clear hm ha
      go_wp2_with (refine (below_any _ _ _).mono ?_; rintro e w' ⟨rfl, rfl⟩)
      refine (twin_apart _ ss ws w1 (B := w.heap.size) B1.out.size (H.out.below B1.out) HM.out.1.fits).mono ?_
      rintro e w2 ⟨y1, y2, m, rfl, hs, hw, hm1, hlt, b2, -⟩
      obtain ⟨A9, c9, rfl⟩ := secs_slice hs
      obtain ⟨A8, c8, rfl⟩ := wts_slice hw
      have hsn := HM.out.1.n
      have hil : i < ss.length := by omega
      have h128 : ss[i].length = 128 := HM.out.1.s _ (List.getElem_mem hil)
      obtain ⟨b, g, cap, cur, rfl, hcell, hgc, hlo, hrow, hset⟩ := (hs.below (below_new w2 (.cells #[.slice A9 ss.length c9, .slice A8 ws.length c8] 29))).at hil (by omega)
      have hgm : g < m := hlt b _ _ i g _ _ rfl hil (by
        have hbl := (hs.low b _ _ rfl (by omega)).2
        rwa [(below_new w2 _).cell (p := ⟨b, i, none⟩) hbl] at hcell)
      have hq0 := heap_alloc_self w2 (.cells #[.slice (some ⟨b, 0, none⟩) ss.length c9, .slice A8 ws.length c8] 29)
      have hqb := below_new w2 (.cells #[.slice (some ⟨b, 0, none⟩) ss.length c9, .slice A8 ws.length c8] 29)
      have hjl : j < ss[i].length := by omega
      have hcj : (w2.alloc (.cells #[.slice (some ⟨b, 0, none⟩) ss.length c9, .slice A8 ws.length c8] 29)).cell? ⟨g, j, none⟩ = some (.int .u8 (ss[i][j].toNat : Int)) := by
        rw [hrow.cellAt j (by omega), List.getElem?_map, List.getElem?_eq_getElem hjl]; rfl
      have hfj := hrow.frozenAt j
      have hstore := hrow.stored j (.int .u8 ((ss[i][j].toNat ^^^ x.toNat : Nat) : Int))
      have hmap : (ss[i].map u8).set j (.int .u8 ((ss[i][j].toNat ^^^ x.toNat : Nat) : Int)) = (ss[i].set j (ss[i][j] ^^^ x)).map u8 := by rw [List.map_set]; simp only [u8, UInt8.toNat_xor]
      rw [hmap] at hstore
      have hxor : bits .xor .u8 (ss[i][j].toNat : Int) (x.toNat : Int) = ((ss[i][j].toNat ^^^ x.toNat : Nat) : Int) := u8_xor_nat _ _ (UInt8.toNat_lt _) (UInt8.toNat_lt _)
      have hturn : turned ss i j x = ss.set i (ss[i].set j (ss[i][j] ^^^ x)) := by rw [turned, modify_set _ _ _ hil, modify_set _ _ _ hjl]
      have hsnew := hset _ (ss[i].set j (ss[i][j] ^^^ x)) (by simp) hstore.1 hstore.2
      have hwnew := wts_grown (hw.below hqb) hstore.2 hgm
      have hbnew := below_set (B := w.heap.size) (B1.out.trans ((b2.trans (hqb.mono b2.size)).mono B1.out.size)) (Nat.le_trans B1.out.size hlo) j (.int .u8 ((ss[i][j].toNat ^^^ x.toNat : Nat) : Int))
      have hg3 := heap_setFar (w2.alloc (.cells #[.slice (some ⟨b, 0, none⟩) ss.length c9, .slice A8 ws.length c8] 29)) g j w2.heap.size (.int .u8 ((ss[i][j].toNat ^^^ x.toNat : Nat) : Int)) (by
        intro e
        rw [← e, hq0] at hgc
        cases hgc)
      have hg4 := heap_setFar (w2.alloc (.cells #[.slice (some ⟨b, 0, none⟩) ss.length c9, .slice A8 ws.length c8] 29)) g j (w.heap.size + 1) (.int .u8 ((ss[i][j].toNat ^^^ x.toNat : Nat) : Int)) (by have := heap_lt C1.out; omega)
      have C4 := hg4.trans (((b2.trans (hqb.mono b2.size)).block _ (heap_lt C1.out)).trans C1.out)
      have C3 := hg3.trans hq0
      obtain ⟨s0, s1⟩ := cell2_of C3
      obtain ⟨t0, t1⟩ := cell2_of C4
      have g0 := frozen2_of C4 0
      have g1 := frozen2_of C4 1
      have SN := Lib.hid hsnew
      have WN := Lib.hid hwnew
      have BN := Lib.hid hbnew
      have C4 := Lib.hid C4
      have HT := Lib.hid hturn
      have HL := Lib.hid (show w.heap.size + 1 < w1.heap.size ∧ w1.heap.size ≤ m from ⟨heap_lt C1.out, hm1⟩)
      have hi0 : (i : Int) < ss.length := by omega
      have hj0 : (j : Int) < ss[i].length := by omega
      have hcap : Hid (ss[i].length = 128) := Lib.hid h128
      clear hs hw hm1 hlt b2 hsn h128 hgc hlo hrow hset hgm hq0 hqb hstore hmap hturn hsnew hwnew hbnew hg3 hg4 C3 k0 k1 r0 r1 f0 f1
      go_wp2_with fail
      refine bodyPost_ret (v := .tuple #[.agg #[.slice (some ⟨b, 0, none⟩) ss.length c9, .slice A8 ws.length c8], .int .i64 0]) ?_ rfl ⟨_, by rw [HE.out], ?_, below_set2 BN.out (Nat.le_succ _) _ _⟩
      · exact results_2_tmp rfl _ _ (w.heap.size + 1) rfl (heap_set2 C4.out _ _) Try.underlying29 infoDisk2 _ rfl
      · rw [spoilS, spoilW, if_pos HE.out, if_pos HE.out]
        refine ⟨_, _, rfl, ?_, ?_⟩
        · show SecsAt _ _ _ (turned ss i j x)
          rw [HT.out]
          have hl := HL.out
          have h := secs_grown SN.out (grown_set2 _ (w.heap.size + 1) (.slice (some ⟨b, 0, none⟩) ss.length c9) (.slice A8 ws.length c8)) (by omega)
          exact h.mono (by omega)
        · have hl := HL.out
          have h := wts_grown WN.out (grown_set2 _ (w.heap.size + 1) (.slice (some ⟨b, 0, none⟩) ss.length c9) (.slice A8 ws.length c8)) (by omega)
          exact h.mono (by omega)
    · have hda : decide (0 ≤ k ∧ k < 128) = false := decide_eq_false ha
      have hE : spoilE ss ws n k = 2 := by rw [spoilE, if_pos hm, if_neg ha]
      have HE := Lib.hid hE
      clear hm hE ha
      go_wp2_with (refine (below_any _ _ _).mono ?_; rintro e w' ⟨rfl, rfl⟩)
      refine bodyPost_ret (v := .tuple #[.agg #[.slice none 0 0, .slice none 0 0], .int .i64 2]) ?_ rfl (BAD.out 2 HE.out (by decide))
      exact results_2_tmp rfl _ _ (w.heap.size + 1) rfl (zero_kept C1.out) Try.underlying29 infoDisk2 _ rfl
  · obtain ⟨r, hr⟩ : ∃ r, r = atE ss ws n := ⟨_, rfl⟩
    rw [← hr] at hm ⊢
    have hE : spoilE ss ws n k = r := by rw [spoilE, if_neg (by rw [← hr]; exact hm), hr]
    have HE := Lib.hid hE
    have hrb : (r == 0) = false := by rw [beq_eq_false_iff_ne]; exact hm
    clear hE hr
    go_wp2_with fail
    refine bodyPost_ret (v := .tuple #[.agg #[.slice none 0 0, .slice none 0 0], .int .i64 r]) ?_ rfl (BAD.out r HE.out hm)
    exact results_2_tmp rfl _ _ (w.heap.size + 1) rfl (zero_kept C1.out) Try.underlying29 infoDisk2 _ rfl
end Go.Proofs.Ytdjoflhcagfmiaa

/-
  Write, as the program answers it.
  Conditions: none.
-/
set_option linter.unusedVariables false
set_option linter.unusedSimpArgs false
set_option maxRecDepth 100000
namespace Go.Proofs.Ytdjoflhcagfmiaa
open Go.RowKit

def writeE (ss : List Bs) (ws : List Wr) (n : Int) (bs : Bs) : Int := if atE ss ws n = 0 then (if bs.length = 128 then (if ws.length = 256 then 9 else 0) else 3) else atE ss ws n
def writeS (ss : List Bs) (ws : List Wr) (n : Int) (bs : Bs) : List Bs := if writeE ss ws n bs = 0 then ss else []
def writeW (ss : List Bs) (ws : List Wr) (n : Int) (bs : Bs) : List Wr := if writeE ss ws n bs = 0 then ws ++ [(n, bs)] else []
theorem secs_kept {W W' : World} {lo : Nat} {v v0 : Value} {ss : List Bs} {b e size n : Nat} {xs : List Value} (h : SecsAt W lo v ss) (h0 : W.ownsRow b e size v0 n xs) (h1 : 34 ≠ e) (h2 : 5 ≠ e) (hg : W.grownBy W' v0.ownBlock) : SecsAt W' lo v ss := by
  obtain ⟨ys, ho, hl, hm, he, hd⟩ := h
  exact ⟨ys, ho.kept hg (owns_apart h1 ho h0), hl, hm, fun j y s h3 h4 => ⟨(he j y s h3 h4).1.kept hg (owns_apart h2 (he j y s h3 h4).1 h0), (he j y s h3 h4).2⟩, hd⟩

theorem secs_turnedRow {W W' : World} {lo g : Nat} {v : Value} {ss : List Bs} {cur : Array Value} {e : TypeId} (h : SecsAt W lo v ss) (hc : W.heap[g]? = some (.cells cur e (0, 0))) (h1 : 34 ≠ e) (h2 : 5 ≠ e) (hg : W.grownBy W' (some g)) : SecsAt W' lo v ss := by
  obtain ⟨ys, ho, hl, hm, he, hd⟩ := h
  have ap : ∀ {e' size n : Nat} {v : Value} {xs : List Value}, e' ≠ e → W.ownsRow lo e' size v n xs → v.ownBlock = none ∨ v.ownBlock ≠ some g := fun hne h => by
    cases hv : Value.ownBlock _ with
    | none => exact .inl rfl
    | some q => exact .inr (fun e1 => by
        cases e1
        obtain ⟨c, h3, _⟩ := owns_block h hv
        rw [hc] at h3
        cases h3
        exact hne rfl)
  exact ⟨ys, ho.kept hg (ap h1 ho), hl, hm, fun j y s h3 h4 => ⟨(he j y s h3 h4).1.kept hg (ap h2 (he j y s h3 h4).1), (he j y s h3 h4).2⟩, hd⟩
theorem wts_turnedRow {W W' : World} {lo g : Nat} {v : Value} {ws : List Wr} {cur : Array Value} {e : TypeId} (h : WtsAt W lo v ws) (hc : W.heap[g]? = some (.cells cur e (0, 0))) (h1 : 52 ≠ e) (h2 : 5 ≠ e) (hg : W.grownBy W' (some g)) : WtsAt W' lo v ws := by
  obtain ⟨ys, ho, hl, hm, he⟩ := h
  have ap : ∀ {e' size n : Nat} {v : Value} {xs : List Value}, e' ≠ e → W.ownsRow lo e' size v n xs → v.ownBlock = none ∨ v.ownBlock ≠ some g := fun hne h => by
    cases hv : Value.ownBlock _ with
    | none => exact .inl rfl
    | some q => exact .inr (fun e1 => by
        cases e1
        obtain ⟨c, h3, _⟩ := owns_block h hv
        rw [hc] at h3
        cases h3
        exact hne rfl)
  exact ⟨ys, ho.kept hg (ap h1 ho), hl, hm, fun j y s h3 h4 => ⟨(he j y s h3 h4).1.kept hg (ap h2 (he j y s h3 h4).1), (he j y s h3 h4).2⟩⟩

set_option maxRecDepth 100000 in
set_option maxHeartbeats 2000000 in
theorem write_any (d bv : Value) (ss : List Bs) (ws : List Wr) (n : Int) (bs : Bs) (w : World) (h : DiskIn w w.heap.size d ss ws) (hx : Txt w w.heap.size bv bs) :
    Calls Try.prog 37 #[d, .int .i64 n, bv] w fun e w' => ∃ d', e = .returned (.tuple #[d', .int .i64 (writeE ss ws n bs)]) ∧ DiskAt w' w.heap.size d' (writeS ss ws n bs) (writeW ss ws n bs) ∧ Below w.heap.size w w' := by
  obtain ⟨v1, v2, rfl, h1, h2⟩ := id h
  have H := Lib.hid h
  have X := Lib.hid hx
  obtain ⟨A2, c2, rfl, -, -, -, -⟩ := h2
  obtain ⟨A3, c3, rfl, -, -, -, -⟩ := hx
  clear h1 h
  have hq := two_boxes w (.cells #[v1, .slice A2 ws.length c2] 29) (.cells #[.slice none 0 0, .slice none 0 0] 29)
  go_enter Try.func37, Try.ntmps37
  go_wp2_with fail
  generalize (w.alloc (.cells #[v1, .slice A2 ws.length c2] 29)).alloc (.cells #[.slice none 0 0, .slice none 0 0] 29) = q at hq ⊢
  obtain ⟨q0, q1, qb⟩ := hq
  have QB := Lib.hid qb
  refine (checkAt_any _ ss ws n q ((H.out.below QB.out).more QB.out.size)).mono ?_
  rintro e w1 ⟨rfl, b1⟩
  have B1 := Lib.hid (QB.out.trans (b1.mono QB.out.size))
  have C0 := Lib.hid ((b1.block _ (heap_lt q0)).trans q0)
  have C1 := Lib.hid ((b1.block _ (heap_lt q1)).trans q1)
  clear q0 q1 qb b1 QB
  obtain ⟨k0, k1⟩ := cell2_of C0.out
  obtain ⟨r0, r1⟩ := cell2_of C1.out
  have f0 := frozen2_of C1.out 0
  have f1 := frozen2_of C1.out 1
  have bad : ∀ r : Int, writeE ss ws n bs = r → r ≠ 0 → ∃ d', Ending.returned (.tuple #[.agg #[.slice none 0 0, .slice none 0 0], .int .i64 r]) = .returned (.tuple #[d', .int .i64 (writeE ss ws n bs)]) ∧ DiskAt ((w1.setCell ⟨w.heap.size + 1, 0, none⟩ (.slice none 0 0)).setCell ⟨w.heap.size + 1, 1, none⟩ (.slice none 0 0)) w.heap.size d' (writeS ss ws n bs) (writeW ss ws n bs) ∧ Below w.heap.size w ((w1.setCell ⟨w.heap.size + 1, 0, none⟩ (.slice none 0 0)).setCell ⟨w.heap.size + 1, 1, none⟩ (.slice none 0 0)) := fun r h h0 =>
    ⟨_, by rw [h], by rw [writeS, writeW, h, if_neg h0, if_neg h0]; exact DiskAt.nil_ _ _, below_set2 B1.out (by omega) _ _⟩
  have BAD := Lib.hid bad
  clear bad
  by_cases hm : atE ss ws n = 0
  · have HM := Lib.hid (atE_may hm)
    rw [hm]
    by_cases hl : bs.length = 128
    · have hl' : (bs.length : Int) = 128 := by omega
      have HB128 := Lib.hid hl
      by_cases hf : ws.length = 256
      · have hf' : ((ws.length : Int) == 256) = true := by rw [beq_iff_eq]; omega
        have hE : writeE ss ws n bs = 9 := by rw [writeE, if_pos hm, if_pos hl, if_pos hf]
        have HE := Lib.hid hE
        clear hE hf hl hm
        go_wp2_with fail
        refine bodyPost_ret (v := .tuple #[.agg #[.slice none 0 0, .slice none 0 0], .int .i64 9]) ?_ rfl (BAD.out 9 HE.out (by decide))
        exact results_2_tmp rfl _ _ (w.heap.size + 1) rfl (zero_kept C1.out) Try.underlying29 infoDisk2 _ rfl
      · have hf' : ((ws.length : Int) == 256) = false := by rw [beq_eq_false_iff_ne]; omega
        have hE : writeE ss ws n bs = 0 := by rw [writeE, if_pos hm, if_pos hl, if_neg hf]
        have HE := Lib.hid hE
        clear hE hf hl hm BAD
        obtain ⟨i0, hi, hz0, hz1, hz2⟩ := info_parts infoWrite
        have I0 := Lib.hid hi
        have I1 := Lib.hid hz0
        have I2 := Lib.hid hz1
        have I3 := Lib.hid hz2
        clear hi hz0 hz1 hz2
        go_wp2_with fail
        refine (twin_apart _ ss ws w1 (B := w.heap.size) B1.out.size (H.out.below B1.out) HM.out.1.fits).mono ?_
        rintro e w2 ⟨y1, y2, m, rfl, hs, hw, hm1, hlt, b2, hmw⟩
        obtain ⟨A9, c9, rfl⟩ := secs_slice hs
        obtain ⟨ys, ho, hyl, -, he⟩ := hw
        obtain ⟨A8, c8, rfl⟩ := own_slice2_ ho
        have HRM := Lib.hid (Nat.lt_of_lt_of_le (heap_lt C1.out) hm1)
        have hq9 := heap_alloc_self w2 (.cells #[.slice A9 ss.length c9, .slice A8 ws.length c8] 29)
        have hqb := below_new w2 (.cells #[.slice A9 ss.length c9, .slice A8 ws.length c8] 29)
        clear k0 k1 r0 r1 f0 f1 hlt
        go_wp2_with fail
        have hQ3 := B1.out.trans ((b2.trans (hqb.mono b2.size)).mono B1.out.size)
        have hmq : m ≤ (w2.alloc (.cells #[.slice A9 ss.length c9, .slice A8 ws.length c8] 29)).heap.size := Nat.le_trans hmw hqb.size
        have hcr := ((b2.trans (hqb.mono b2.size)).block _ (heap_lt C1.out)).trans C1.out
        have hoq := owns_below ho hqb
        have heq : ∀ (j : Nat) (y : Value) (x : Wr), ys[j]? = some y → ws[j]? = some x → (w2.alloc (.cells #[.slice A9 ss.length c9, .slice A8 ws.length c8] 29)).ownsRow m 5 1 y x.2.length (x.2.map u8) ∧ x.2.length ≤ maxLen := fun j y x h1 h2 => ⟨owns_below (he j y x h1 h2).1 hqb, (he j y x h1 h2).2⟩
        have hsq := hs.below hqb
        obtain ⟨b9, hb9⟩ : ∃ b9, b9 = w2.heap.size := ⟨_, rfl⟩
        rw [← hb9] at hq9 hmw ⊢
        generalize w2.alloc (.cells #[.slice A9 ss.length c9, .slice A8 ws.length c8] 29) = q3 at hq9 hqb hQ3 hmq hcr hoq heq hsq ⊢
        have QB3 := Lib.hid hQ3
        have C9 := Lib.hid hq9
        have CR := Lib.hid hcr
        have O := Lib.hid hoq
        have E := Lib.hid heq
        have YL := Lib.hid hyl
        have SQ := Lib.hid hsq
        have HMQ := Lib.hid hmq
        have HLO := Lib.hid hmq
        have HM9 := Lib.hid hmw
        have HWM := Lib.hid (Nat.le_trans B1.out.size hm1)
        have hn256 : ws.length ≤ 256 := HM.out.1.m
        obtain ⟨d0, d1⟩ := cell2_of hq9
        clear hq9 hqb hQ3 hmq hcr hoq heq hsq hs ho he hyl hb9 hmw b2 hm1
        refine wp_region_held_drew (S := fun _ => True) (by kernel_rfl) trivial (fun hHeld => ?_)
        refine wpAnyH_take (i := 0) (v := ?_) rfl (by kernel_rfl) (by kernel_rfl) (by kernel_rfl) (fun _ _ _ h => h) (Or.inl ⟨by rfl, ?_⟩) hHeld ?_
        rotate_left
        · intro w' hSw; go_simp; try with_reducible rfl
        simp only [List.getElem_toArray, List.getElem_cons_succ, List.getElem_cons_zero, Act.put, List.setIfInBounds_toArray, List.set_cons_zero, List.set_cons_succ]
        refine wpAnyH_take (i := 2) (v := ?_) rfl (by kernel_rfl) (by kernel_rfl) (by kernel_rfl) (fun _ _ _ h => h) (Or.inl ⟨by rfl, ?_⟩) hHeld ?_
        rotate_left
        · intro w' hSw; go_simp; try with_reducible rfl
        simp only [List.getElem_toArray, List.getElem_cons_succ, List.getElem_cons_zero, Act.put, List.setIfInBounds_toArray, List.set_cons_zero, List.set_cons_succ]
        refine wpAnyH_take (i := 3) (v := ?_) rfl (by kernel_rfl) (by kernel_rfl) (by kernel_rfl) (fun _ _ _ h => h) (Or.inl ⟨by rfl, ?_⟩) hHeld ?_
        rotate_left
        · intro w' hSw; go_simp; try with_reducible rfl
        simp only [List.getElem_toArray, List.getElem_cons_succ, List.getElem_cons_zero, Act.put, List.setIfInBounds_toArray, List.set_cons_zero, List.set_cons_succ]
        refine wpAnyH_ready (rs := [1, 4]) (by kernel_rfl) (by simp) ?_
        refine AllReadyH.cons rfl (fun K hK => ?_) (AllReadyH.cons rfl (fun K hK => ?_) AllReadyH.nil)
        · go_simp
          refine hK.out _ _ ?_ (fun hHeld => ?_)
          · exact trivial
          clear hK K
          try simp only [List.getElem_toArray, List.getElem_cons_succ, List.getElem_cons_zero, Act.put, List.setIfInBounds_toArray, List.set_cons_zero, List.set_cons_succ]
          refine wpAnyH_ready (rs := [4]) (by kernel_rfl) (by simp) ?_
          refine AllReadyH.cons rfl (fun K hK => ?_) AllReadyH.nil
          go_simp
          refine (clone_any _ bs q3.drew (B := w.heap.size) QB3.out.size (X.out.below QB3.out.drew) (by rw [HB128.out]; omega)).mono ?_
          rintro e wA ⟨yA, rfl, hoA, bA⟩
          have OA := Lib.hid hoA
          have BA : Hid (Below q3.heap.size q3 wA) := Lib.hid ((Below.refl _ q3).drew.trans bA)
          obtain ⟨A7, c7, rfl⟩ := own_slice_ hoA
          clear hoA bA
          try go_wp2_with fail
          refine hK.out _ _ ?_ (fun hHeld => ?_)
          · exact trivial
          clear hK K
          try simp only [List.getElem_toArray, List.getElem_cons_succ, List.getElem_cons_zero, Act.put, List.setIfInBounds_toArray, List.set_cons_zero, List.set_cons_succ]
          refine wpAnyH_take (i := 5) (v := ?_) rfl (by kernel_rfl) (by kernel_rfl) (by kernel_rfl) (fun _ _ _ h => h) (Or.inl ⟨by rfl, ?_⟩) hHeld ?_
          rotate_left
          · intro w' hSw; go_simp; try with_reducible rfl
          simp only [List.getElem_toArray, List.getElem_cons_succ, List.getElem_cons_zero, Act.put, List.setIfInBounds_toArray, List.set_cons_zero, List.set_cons_succ]
          refine wpAnyH_ready (rs := [6]) (by kernel_rfl) (by simp) ?_
          refine AllReadyH.cons rfl (fun K hK => ?_) AllReadyH.nil
          go_simp
          refine hK.out _ _ ?_ (fun hHeld => ?_)
          · exact trivial
          clear hK K
          try simp only [List.getElem_toArray, List.getElem_cons_succ, List.getElem_cons_zero, Act.put, List.setIfInBounds_toArray, List.set_cons_zero, List.set_cons_succ]
          refine wpAnyH_ready (rs := [7]) (by kernel_rfl) (by simp) ?_
          refine AllReadyH.cons rfl (fun K hK => ?_) AllReadyH.nil
          rw [if_pos (by rfl)]
          refine wp_append_any (.tmp 29) (.tmp 34) _ rfl Try.underlying27 I0.out I1.out rfl I2.out (by decide) I3.out (by decide) rfl ((owns_below O.out BA.out).alloc _) (m := 1) rfl (news := [.int .i64 n, .slice A7 bs.length c7]) rfl (fun j u hj => by rw [World.cell?_alloc_new]; simpa using hj) (by simp [Value.oneCell']) (by have := HM.out.1.m; omega) (by have := BA.out.size; have := HLO.out; simp; omega) ?_
          intro v5 w5 hown5 hgrow5
          have B4 : Hid (Below q3.heap.size q3 (wA.alloc (.cells #[.int .i64 n, .slice A7 bs.length c7] 52))) := Lib.hid (BA.out.alloc BA.out.size _)
          have W5 := Lib.hid (wts_snoc (x := (n, bs)) O.out YL.out E.out HLO.out BA.out OA.out (by show bs.length ≤ _; rw [HB128.out]; unfold maxLen; omega) (by have := HM.out.1.m; unfold maxLen; omega) hown5 hgrow5)
          have S5 := Lib.hid (secs_kept ((SQ.out.below BA.out).below (below_new _ _)) ((owns_below O.out BA.out).alloc _) (by decide) (by decide) hgrow5)
          have B5 := Lib.hid ((B4.out.mono HMQ.out).grown hgrow5 (Nat.le_trans HMQ.out B4.out.size) (own_ge O.out))
          have hne : ∀ b, b < m → some b ≠ (Value.slice A8 ws.length c8).ownBlock := fun b hb e => by have := own_ge O.out b e.symm; omega
          have C5 := Lib.hid ((hgrow5.block _ (Nat.lt_of_lt_of_le (heap_lt C9.out) B4.out.size) (fun e => by obtain ⟨cur, h1, _⟩ := owns_block O.out e.symm; rw [C9.out] at h1; cases h1)).trans ((B4.out.block _ (heap_lt C9.out)).trans C9.out))
          have R5 := Lib.hid ((hgrow5.block _ (Nat.lt_of_lt_of_le (heap_lt CR.out) B4.out.size) (hne _ HRM.out)).trans ((B4.out.block _ (heap_lt CR.out)).trans CR.out))
          obtain ⟨A6, c6, h6⟩ := own_slice2_ hown5
          subst h6
          clear hown5 hgrow5 hne
          refine hK.out _ _ ?_ (fun hHeld => ?_)
          · exact trivial
          clear hK K
          try simp only [List.getElem_toArray, List.getElem_cons_succ, List.getElem_cons_zero, Act.put, List.setIfInBounds_toArray, List.set_cons_zero, List.set_cons_succ]
          refine wpAnyH_take (i := 8) (v := ?_) rfl (by kernel_rfl) (by kernel_rfl) (by kernel_rfl) (fun _ _ _ h => h) (Or.inl ⟨by rfl, ?_⟩) hHeld ?_
          rotate_left
          · intro w' hSw; go_simp; try with_reducible rfl
          simp only [List.getElem_toArray, List.getElem_cons_succ, List.getElem_cons_zero, Act.put, List.setIfInBounds_toArray, List.set_cons_zero, List.set_cons_succ]
          obtain ⟨m0, m1⟩ := cell2_of C5.out
          have g1 := frozen2_of C5.out 1
          refine wpAnyH_ready (rs := [9]) (by kernel_rfl) (by simp) ?_
          refine AllReadyH.cons rfl (fun K hK => ?_) AllReadyH.nil
          rw [if_pos (by rfl)]
          go_simp
          refine hK.out _ _ ?_ (fun hHeld => ?_)
          · exact trivial
          clear hK K
          try simp only [List.getElem_toArray, List.getElem_cons_succ, List.getElem_cons_zero, Act.put, List.setIfInBounds_toArray, List.set_cons_zero, List.set_cons_succ]
          refine wpAnyH_done (by kernel_rfl) ?_ _
          have C6 := Lib.hid (heap_setB C5.out (.slice A6 (ws.length + 1) c6))
          have HN9 := Lib.hid (show w.heap.size + 1 < m ∧ m ≤ b9 from ⟨HRM.out, HM9.out⟩)
          have R6 := Lib.hid ((heap_setFar w5 b9 1 (w.heap.size + 1) (.slice A6 (ws.length + 1) c6) (by have := HN9.out; omega)).trans R5.out)
          have S6 := Lib.hid (secs_turnedRow S5.out C5.out (by decide) (by decide) (grown_set w5 b9 1 (.slice A6 (ws.length + 1) c6)))
          have W6 := Lib.hid (wts_turnedRow W5.out C5.out (by decide) (by decide) (grown_set w5 b9 1 (.slice A6 (ws.length + 1) c6)))
          have B6 := Lib.hid (below_set (QB3.out.trans (B5.out.mono HWM.out)) (show w.heap.size ≤ b9 by have := HN9.out; omega) 1 (.slice A6 (ws.length + 1) c6))
          generalize w5.setCell ⟨b9, 1, none⟩ (.slice A6 (ws.length + 1) c6) = w6 at C6 R6 S6 W6 B6 ⊢
          clear m0 m1 g1
          obtain ⟨s0, s1⟩ := cell2_of C6.out
          obtain ⟨t0, t1⟩ := cell2_of R6.out
          have g0 := frozen2_of R6.out 0
          have g1 := frozen2_of R6.out 1
          go_wp2_with fail
          refine bodyPost_ret (v := .tuple #[.agg #[.slice A9 ss.length c9, .slice A6 (ws.length + 1) c6], .int .i64 0]) ?_ rfl ⟨_, by rw [HE.out], ?_, below_set2 B6.out (Nat.le_succ _) _ _⟩
          · exact results_2_tmp rfl _ _ (w.heap.size + 1) rfl (heap_set2 R6.out _ _) Try.underlying29 infoDisk2 _ rfl
          · rw [writeS, writeW, if_pos HE.out, if_pos HE.out]
            refine ⟨_, _, rfl, ?_, ?_⟩
            · exact (secs_turnedRow S6.out R6.out (by decide) (by decide) (grown_set2 w6 (w.heap.size + 1) _ _)).mono B1.out.size
            · exact (wts_turnedRow W6.out R6.out (by decide) (by decide) (grown_set2 w6 (w.heap.size + 1) _ _)).mono HWM.out
        · go_simp
          refine (clone_any _ bs q3.drew (B := w.heap.size) QB3.out.size (X.out.below QB3.out.drew) (by rw [HB128.out]; omega)).mono ?_
          rintro e wA ⟨yA, rfl, hoA, bA⟩
          have OA := Lib.hid hoA
          have BA : Hid (Below q3.heap.size q3 wA) := Lib.hid ((Below.refl _ q3).drew.trans bA)
          obtain ⟨A7, c7, rfl⟩ := own_slice_ hoA
          clear hoA bA
          try go_wp2_with fail
          refine hK.out _ _ ?_ (fun hHeld => ?_)
          · exact trivial
          clear hK K
          try simp only [List.getElem_toArray, List.getElem_cons_succ, List.getElem_cons_zero, Act.put, List.setIfInBounds_toArray, List.set_cons_zero, List.set_cons_succ]
          refine wpAnyH_take (i := 5) (v := ?_) rfl (by kernel_rfl) (by kernel_rfl) (by kernel_rfl) (fun _ _ _ h => h) (Or.inl ⟨by rfl, ?_⟩) hHeld ?_
          rotate_left
          · intro w' hSw; go_simp; try with_reducible rfl
          simp only [List.getElem_toArray, List.getElem_cons_succ, List.getElem_cons_zero, Act.put, List.setIfInBounds_toArray, List.set_cons_zero, List.set_cons_succ]
          refine wpAnyH_ready (rs := [1, 6]) (by kernel_rfl) (by simp) ?_
          refine AllReadyH.cons rfl (fun K hK => ?_) (AllReadyH.cons rfl (fun K hK => ?_) AllReadyH.nil)
          · obtain ⟨k0, k1⟩ := cell2_of ((BA.out.block _ (heap_lt C9.out)).trans C9.out)
            go_simp
            refine hK.out _ _ ?_ (fun hHeld => ?_)
            · exact trivial
            clear hK K
            try simp only [List.getElem_toArray, List.getElem_cons_succ, List.getElem_cons_zero, Act.put, List.setIfInBounds_toArray, List.set_cons_zero, List.set_cons_succ]
            refine wpAnyH_ready (rs := [6]) (by kernel_rfl) (by simp) ?_
            refine AllReadyH.cons rfl (fun K hK => ?_) AllReadyH.nil
            go_simp
            refine hK.out _ _ ?_ (fun hHeld => ?_)
            · exact trivial
            clear hK K
            try simp only [List.getElem_toArray, List.getElem_cons_succ, List.getElem_cons_zero, Act.put, List.setIfInBounds_toArray, List.set_cons_zero, List.set_cons_succ]
            refine wpAnyH_ready (rs := [7]) (by kernel_rfl) (by simp) ?_
            refine AllReadyH.cons rfl (fun K hK => ?_) AllReadyH.nil
            rw [if_pos (by rfl)]
            refine wp_append_any (.tmp 29) (.tmp 34) _ rfl Try.underlying27 I0.out I1.out rfl I2.out (by decide) I3.out (by decide) rfl ((owns_below O.out BA.out).alloc _) (m := 1) rfl (news := [.int .i64 n, .slice A7 bs.length c7]) rfl (fun j u hj => by rw [World.cell?_alloc_new]; simpa using hj) (by simp [Value.oneCell']) (by have := HM.out.1.m; omega) (by have := BA.out.size; have := HLO.out; simp; omega) ?_
            intro v5 w5 hown5 hgrow5
            have B4 : Hid (Below q3.heap.size q3 (wA.alloc (.cells #[.int .i64 n, .slice A7 bs.length c7] 52))) := Lib.hid (BA.out.alloc BA.out.size _)
            have W5 := Lib.hid (wts_snoc (x := (n, bs)) O.out YL.out E.out HLO.out BA.out OA.out (by show bs.length ≤ _; rw [HB128.out]; unfold maxLen; omega) (by have := HM.out.1.m; unfold maxLen; omega) hown5 hgrow5)
            have S5 := Lib.hid (secs_kept ((SQ.out.below BA.out).below (below_new _ _)) ((owns_below O.out BA.out).alloc _) (by decide) (by decide) hgrow5)
            have B5 := Lib.hid ((B4.out.mono HMQ.out).grown hgrow5 (Nat.le_trans HMQ.out B4.out.size) (own_ge O.out))
            have hne : ∀ b, b < m → some b ≠ (Value.slice A8 ws.length c8).ownBlock := fun b hb e => by have := own_ge O.out b e.symm; omega
            have C5 := Lib.hid ((hgrow5.block _ (Nat.lt_of_lt_of_le (heap_lt C9.out) B4.out.size) (fun e => by obtain ⟨cur, h1, _⟩ := owns_block O.out e.symm; rw [C9.out] at h1; cases h1)).trans ((B4.out.block _ (heap_lt C9.out)).trans C9.out))
            have R5 := Lib.hid ((hgrow5.block _ (Nat.lt_of_lt_of_le (heap_lt CR.out) B4.out.size) (hne _ HRM.out)).trans ((B4.out.block _ (heap_lt CR.out)).trans CR.out))
            obtain ⟨A6, c6, h6⟩ := own_slice2_ hown5
            subst h6
            clear hown5 hgrow5 hne
            refine hK.out _ _ ?_ (fun hHeld => ?_)
            · exact trivial
            clear hK K
            try simp only [List.getElem_toArray, List.getElem_cons_succ, List.getElem_cons_zero, Act.put, List.setIfInBounds_toArray, List.set_cons_zero, List.set_cons_succ]
            refine wpAnyH_take (i := 8) (v := ?_) rfl (by kernel_rfl) (by kernel_rfl) (by kernel_rfl) (fun _ _ _ h => h) (Or.inl ⟨by rfl, ?_⟩) hHeld ?_
            rotate_left
            · intro w' hSw; go_simp; try with_reducible rfl
            simp only [List.getElem_toArray, List.getElem_cons_succ, List.getElem_cons_zero, Act.put, List.setIfInBounds_toArray, List.set_cons_zero, List.set_cons_succ]
            obtain ⟨m0, m1⟩ := cell2_of C5.out
            have g1 := frozen2_of C5.out 1
            refine wpAnyH_ready (rs := [9]) (by kernel_rfl) (by simp) ?_
            refine AllReadyH.cons rfl (fun K hK => ?_) AllReadyH.nil
            rw [if_pos (by rfl)]
            go_simp
            refine hK.out _ _ ?_ (fun hHeld => ?_)
            · exact trivial
            clear hK K
            try simp only [List.getElem_toArray, List.getElem_cons_succ, List.getElem_cons_zero, Act.put, List.setIfInBounds_toArray, List.set_cons_zero, List.set_cons_succ]
            refine wpAnyH_done (by kernel_rfl) ?_ _
            have C6 := Lib.hid (heap_setB C5.out (.slice A6 (ws.length + 1) c6))
            have HN9 := Lib.hid (show w.heap.size + 1 < m ∧ m ≤ b9 from ⟨HRM.out, HM9.out⟩)
            have R6 := Lib.hid ((heap_setFar w5 b9 1 (w.heap.size + 1) (.slice A6 (ws.length + 1) c6) (by have := HN9.out; omega)).trans R5.out)
            have S6 := Lib.hid (secs_turnedRow S5.out C5.out (by decide) (by decide) (grown_set w5 b9 1 (.slice A6 (ws.length + 1) c6)))
            have W6 := Lib.hid (wts_turnedRow W5.out C5.out (by decide) (by decide) (grown_set w5 b9 1 (.slice A6 (ws.length + 1) c6)))
            have B6 := Lib.hid (below_set (QB3.out.trans (B5.out.mono HWM.out)) (show w.heap.size ≤ b9 by have := HN9.out; omega) 1 (.slice A6 (ws.length + 1) c6))
            generalize w5.setCell ⟨b9, 1, none⟩ (.slice A6 (ws.length + 1) c6) = w6 at C6 R6 S6 W6 B6 ⊢
            clear m0 m1 g1
            obtain ⟨s0, s1⟩ := cell2_of C6.out
            obtain ⟨t0, t1⟩ := cell2_of R6.out
            have g0 := frozen2_of R6.out 0
            have g1 := frozen2_of R6.out 1
            go_wp2_with fail
            refine bodyPost_ret (v := .tuple #[.agg #[.slice A9 ss.length c9, .slice A6 (ws.length + 1) c6], .int .i64 0]) ?_ rfl ⟨_, by rw [HE.out], ?_, below_set2 B6.out (Nat.le_succ _) _ _⟩
            · exact results_2_tmp rfl _ _ (w.heap.size + 1) rfl (heap_set2 R6.out _ _) Try.underlying29 infoDisk2 _ rfl
            · rw [writeS, writeW, if_pos HE.out, if_pos HE.out]
              refine ⟨_, _, rfl, ?_, ?_⟩
              · exact (secs_turnedRow S6.out R6.out (by decide) (by decide) (grown_set2 w6 (w.heap.size + 1) _ _)).mono B1.out.size
              · exact (wts_turnedRow W6.out R6.out (by decide) (by decide) (grown_set2 w6 (w.heap.size + 1) _ _)).mono HWM.out
          · go_simp
            refine hK.out _ _ ?_ (fun hHeld => ?_)
            · exact trivial
            clear hK K
            try simp only [List.getElem_toArray, List.getElem_cons_succ, List.getElem_cons_zero, Act.put, List.setIfInBounds_toArray, List.set_cons_zero, List.set_cons_succ]
            refine wpAnyH_ready (rs := [1]) (by kernel_rfl) (by simp) ?_
            refine AllReadyH.cons rfl (fun K hK => ?_) AllReadyH.nil
            obtain ⟨k0, k1⟩ := cell2_of (((BA.out.alloc BA.out.size (.cells #[.int .i64 n, .slice A7 bs.length c7] 52)).block _ (heap_lt C9.out)).trans C9.out)
            go_simp
            refine hK.out _ _ ?_ (fun hHeld => ?_)
            · exact trivial
            clear hK K
            try simp only [List.getElem_toArray, List.getElem_cons_succ, List.getElem_cons_zero, Act.put, List.setIfInBounds_toArray, List.set_cons_zero, List.set_cons_succ]
            refine wpAnyH_ready (rs := [7]) (by kernel_rfl) (by simp) ?_
            refine AllReadyH.cons rfl (fun K hK => ?_) AllReadyH.nil
            rw [if_pos (by rfl)]
            refine wp_append_any (.tmp 29) (.tmp 34) _ rfl Try.underlying27 I0.out I1.out rfl I2.out (by decide) I3.out (by decide) rfl ((owns_below O.out BA.out).alloc _) (m := 1) rfl (news := [.int .i64 n, .slice A7 bs.length c7]) rfl (fun j u hj => by rw [World.cell?_alloc_new]; simpa using hj) (by simp [Value.oneCell']) (by have := HM.out.1.m; omega) (by have := BA.out.size; have := HLO.out; simp; omega) ?_
            intro v5 w5 hown5 hgrow5
            have B4 : Hid (Below q3.heap.size q3 (wA.alloc (.cells #[.int .i64 n, .slice A7 bs.length c7] 52))) := Lib.hid (BA.out.alloc BA.out.size _)
            have W5 := Lib.hid (wts_snoc (x := (n, bs)) O.out YL.out E.out HLO.out BA.out OA.out (by show bs.length ≤ _; rw [HB128.out]; unfold maxLen; omega) (by have := HM.out.1.m; unfold maxLen; omega) hown5 hgrow5)
            have S5 := Lib.hid (secs_kept ((SQ.out.below BA.out).below (below_new _ _)) ((owns_below O.out BA.out).alloc _) (by decide) (by decide) hgrow5)
            have B5 := Lib.hid ((B4.out.mono HMQ.out).grown hgrow5 (Nat.le_trans HMQ.out B4.out.size) (own_ge O.out))
            have hne : ∀ b, b < m → some b ≠ (Value.slice A8 ws.length c8).ownBlock := fun b hb e => by have := own_ge O.out b e.symm; omega
            have C5 := Lib.hid ((hgrow5.block _ (Nat.lt_of_lt_of_le (heap_lt C9.out) B4.out.size) (fun e => by obtain ⟨cur, h1, _⟩ := owns_block O.out e.symm; rw [C9.out] at h1; cases h1)).trans ((B4.out.block _ (heap_lt C9.out)).trans C9.out))
            have R5 := Lib.hid ((hgrow5.block _ (Nat.lt_of_lt_of_le (heap_lt CR.out) B4.out.size) (hne _ HRM.out)).trans ((B4.out.block _ (heap_lt CR.out)).trans CR.out))
            obtain ⟨A6, c6, h6⟩ := own_slice2_ hown5
            subst h6
            clear hown5 hgrow5 hne
            refine hK.out _ _ ?_ (fun hHeld => ?_)
            · exact trivial
            clear hK K
            try simp only [List.getElem_toArray, List.getElem_cons_succ, List.getElem_cons_zero, Act.put, List.setIfInBounds_toArray, List.set_cons_zero, List.set_cons_succ]
            refine wpAnyH_take (i := 8) (v := ?_) rfl (by kernel_rfl) (by kernel_rfl) (by kernel_rfl) (fun _ _ _ h => h) (Or.inl ⟨by rfl, ?_⟩) hHeld ?_
            rotate_left
            · intro w' hSw; go_simp; try with_reducible rfl
            simp only [List.getElem_toArray, List.getElem_cons_succ, List.getElem_cons_zero, Act.put, List.setIfInBounds_toArray, List.set_cons_zero, List.set_cons_succ]
            obtain ⟨m0, m1⟩ := cell2_of C5.out
            have g1 := frozen2_of C5.out 1
            refine wpAnyH_ready (rs := [9]) (by kernel_rfl) (by simp) ?_
            refine AllReadyH.cons rfl (fun K hK => ?_) AllReadyH.nil
            rw [if_pos (by rfl)]
            go_simp
            refine hK.out _ _ ?_ (fun hHeld => ?_)
            · exact trivial
            clear hK K
            try simp only [List.getElem_toArray, List.getElem_cons_succ, List.getElem_cons_zero, Act.put, List.setIfInBounds_toArray, List.set_cons_zero, List.set_cons_succ]
            refine wpAnyH_done (by kernel_rfl) ?_ _
            have C6 := Lib.hid (heap_setB C5.out (.slice A6 (ws.length + 1) c6))
            have HN9 := Lib.hid (show w.heap.size + 1 < m ∧ m ≤ b9 from ⟨HRM.out, HM9.out⟩)
            have R6 := Lib.hid ((heap_setFar w5 b9 1 (w.heap.size + 1) (.slice A6 (ws.length + 1) c6) (by have := HN9.out; omega)).trans R5.out)
            have S6 := Lib.hid (secs_turnedRow S5.out C5.out (by decide) (by decide) (grown_set w5 b9 1 (.slice A6 (ws.length + 1) c6)))
            have W6 := Lib.hid (wts_turnedRow W5.out C5.out (by decide) (by decide) (grown_set w5 b9 1 (.slice A6 (ws.length + 1) c6)))
            have B6 := Lib.hid (below_set (QB3.out.trans (B5.out.mono HWM.out)) (show w.heap.size ≤ b9 by have := HN9.out; omega) 1 (.slice A6 (ws.length + 1) c6))
            generalize w5.setCell ⟨b9, 1, none⟩ (.slice A6 (ws.length + 1) c6) = w6 at C6 R6 S6 W6 B6 ⊢
            clear m0 m1 g1
            obtain ⟨s0, s1⟩ := cell2_of C6.out
            obtain ⟨t0, t1⟩ := cell2_of R6.out
            have g0 := frozen2_of R6.out 0
            have g1 := frozen2_of R6.out 1
            go_wp2_with fail
            refine bodyPost_ret (v := .tuple #[.agg #[.slice A9 ss.length c9, .slice A6 (ws.length + 1) c6], .int .i64 0]) ?_ rfl ⟨_, by rw [HE.out], ?_, below_set2 B6.out (Nat.le_succ _) _ _⟩
            · exact results_2_tmp rfl _ _ (w.heap.size + 1) rfl (heap_set2 R6.out _ _) Try.underlying29 infoDisk2 _ rfl
            · rw [writeS, writeW, if_pos HE.out, if_pos HE.out]
              refine ⟨_, _, rfl, ?_, ?_⟩
              · exact (secs_turnedRow S6.out R6.out (by decide) (by decide) (grown_set2 w6 (w.heap.size + 1) _ _)).mono B1.out.size
              · exact (wts_turnedRow W6.out R6.out (by decide) (by decide) (grown_set2 w6 (w.heap.size + 1) _ _)).mono HWM.out
    · have hl' : ((bs.length : Int) == 128) = false := by rw [beq_eq_false_iff_ne]; omega
      have hE : writeE ss ws n bs = 3 := by rw [writeE, if_pos hm, if_neg hl]
      have HE := Lib.hid hE
      have hl2 : ¬ (bs.length : Int) = 128 := by omega
      clear hE hl hm
      go_wp2_with fail
      refine bodyPost_ret (v := .tuple #[.agg #[.slice none 0 0, .slice none 0 0], .int .i64 3]) ?_ rfl (BAD.out 3 HE.out (by decide))
      exact results_2_tmp rfl _ _ (w.heap.size + 1) rfl (zero_kept C1.out) Try.underlying29 infoDisk2 _ rfl
  · obtain ⟨r, hr⟩ : ∃ r, r = atE ss ws n := ⟨_, rfl⟩
    rw [← hr] at hm ⊢
    have hE : writeE ss ws n bs = r := by rw [writeE, if_neg (by rw [← hr]; exact hm), hr]
    have HE := Lib.hid hE
    have hrb : (r == 0) = false := by rw [beq_eq_false_iff_ne]; exact hm
    clear hE hr
    go_wp2_with fail
    refine bodyPost_ret (v := .tuple #[.agg #[.slice none 0 0, .slice none 0 0], .int .i64 r]) ?_ rfl (BAD.out r HE.out hm)
    exact results_2_tmp rfl _ _ (w.heap.size + 1) rfl (zero_kept C1.out) Try.underlying29 infoDisk2 _ rfl
end Go.Proofs.Ytdjoflhcagfmiaa

/-
  Read, as the program answers it.
  Conditions: none.
-/
set_option linter.unusedVariables false
set_option linter.unusedSimpArgs false
set_option maxRecDepth 100000
namespace Go.Proofs.Ytdjoflhcagfmiaa
open Go.RowKit Go.Shelf

attribute [local go_sem] Oper.semAt_some

def readS (ss : List Bs) (ws : List Wr) (n : Int) : Bs := if atE ss ws n = 0 then seeAll (ss.getD n.toNat []) n.toNat (piecesOf ws (all128 ws)) else []

theorem read_bad (d : Value) (ss : List Bs) (ws : List Wr) (n : Int) (w : World) (h : DiskIn w w.heap.size d ss ws) (h0 : atE ss ws n ≠ 0) :
    Calls Try.prog 27 #[d, .int .i64 n] w fun e w' => ∃ y, e = .returned (.tuple #[y, .int .i64 (atE ss ws n)]) ∧ w'.ownsRow w.heap.size 5 1 y (readS ss ws n).length ((readS ss ws n).map u8) ∧ Below w.heap.size w w' := by
  obtain ⟨v1, v2, rfl, h1, h2⟩ := id h
  have H := Lib.hid h
  clear h1 h2 h
  obtain ⟨r, hr⟩ : ∃ r, r = atE ss ws n := ⟨_, rfl⟩
  have HR : Hid (readS ss ws n = []) := Lib.hid (by rw [readS, if_neg h0])
  have hc := checkAt_any (.agg #[v1, v2]) ss ws n
  rw [← hr] at h0 hc ⊢
  have hrb : (r == 0) = false := by rw [beq_eq_false_iff_ne]; exact h0
  have HC := Lib.hid hc
  clear hr hc
  have hq := two_boxes w (.cells #[v1, v2] 29) (.cells #[.int .i64 n] 3)
  go_enter Try.func27, Try.ntmps27
  go_wp2_with fail
  generalize (w.alloc (.cells #[v1, v2] 29)).alloc (.cells #[.int .i64 n] 3) = q at hq ⊢
  obtain ⟨q0, q1, qb⟩ := hq
  have QB := Lib.hid qb
  refine (HC.out q ((H.out.below QB.out).more QB.out.size)).mono ?_
  rintro e w1 ⟨rfl, b1⟩
  have B1 := Lib.hid (QB.out.trans (b1.mono QB.out.size))
  clear q0 q1 qb b1 QB
  go_wp2_with fail
  refine bodyPost_ret (results_tmp2 rfl _ _ _) rfl ⟨.slice none 0 0, rfl, ?_, B1.out⟩
  rw [HR.out]
  exact World.ownsRow_nil _ _ _ _

set_option maxRecDepth 100000 in
set_option maxHeartbeats 2000000 in
theorem read_good (d : Value) (ss : List Bs) (ws : List Wr) (n : Int) (w : World) (h : DiskIn w w.heap.size d ss ws) (h0 : atE ss ws n = 0) :
    Calls Try.prog 27 #[d, .int .i64 n] w fun e w' => ∃ y, e = .returned (.tuple #[y, .int .i64 0]) ∧ w'.ownsRow w.heap.size 5 1 y (readS ss ws n).length ((readS ss ws n).map u8) ∧ Below w.heap.size w w' := by
  obtain ⟨v1, v2, rfl, h1, h2⟩ := id h
  have H := Lib.hid h
  have H1 := Lib.hid h1
  have H2 := Lib.hid h2
  obtain ⟨A1, c1, rfl, -, -, -, -⟩ := h1
  obtain ⟨A2, c2, rfl, -, -, -, -⟩ := h2
  have HM := Lib.hid (atE_may h0)
  obtain ⟨a, ha⟩ : ∃ a : Nat, n = (a : Int) := ⟨n.toNat, by have := HM.out.2.1; omega⟩
  subst ha
  have hRS : readS ss ws (a : Int) = seeAll (ss.getD a []) a (piecesOf ws (all128 ws)) := by rw [readS, if_pos h0]; rfl
  have HRS := Lib.hid hRS
  have hc := checkAt_any (.agg #[.slice A1 ss.length c1, .slice A2 ws.length c2]) ss ws a
  rw [h0] at hc
  have HC := Lib.hid hc
  clear h h0 hc hRS
  refine (callsIn_wide (n := 3)).1 ?_
  have hmf : ∀ (fn : Fn) (first cap : Array Value) (w : World), (Instr.makeFunc fn first cap).run Try.prog w = .ok (.func fn first cap) w := fun _ _ _ _ => rfl
  have hq := two_boxes w (.cells #[.slice A1 ss.length c1, .slice A2 ws.length c2] 29) (.cells #[.int .i64 (a : Int)] 3)
  refine callsIn_of_wp_marks Try.func27 rfl trivial ?_ rfl
  simp only [Try.ntmps27, List.size_toArray, List.length_cons, List.length_nil, Nat.reduceAdd, Nat.reduceSub, Array.replicate_succ, Array.replicate_zero, List.push_toArray, List.append_toArray, List.nil_append, List.cons_append]
  gi_wp2_with fail
  generalize (w.alloc (.cells #[.slice A1 ss.length c1, .slice A2 ws.length c2] 29)).alloc (.cells #[.int .i64 (a : Int)] 3) = q at hq ⊢
  obtain ⟨q0, q1, qb⟩ := hq
  have QB := Lib.hid qb
  refine ⟨trivial, ?_⟩
  refine (callsIn_wide.2 (HC.out q ((H.out.below QB.out).more QB.out.size))).mono ?_
  rintro e w1 ⟨rfl, b1⟩
  have B1 := Lib.hid (QB.out.trans (b1.mono QB.out.size))
  have C0 := Lib.hid ((b1.block _ (heap_lt q0)).trans q0)
  have C1 : Hid (Boxed w1 (w.heap.size + 1) 3 (.int .i64 (a : Int))) := Lib.hid ((b1.block _ (heap_lt q1)).trans q1)
  clear q0 q1 qb b1 QB
  obtain ⟨k0, k1⟩ := cell2_of C0.out
  have k2 := C1.out.cell
  have hal : a < ss.length := by have := HM.out.1.n; have := HM.out.2.2; omega
  have hal' : (a : Int) < ss.length := by omega
  obtain ⟨b0, o0, u0, rfl, hbb, hcu, htu⟩ := (H1.out.below B1.out).at hal
  have h128 : ss[a].length = 128 := HM.out.1.s _ (List.getElem_mem hal)
  have hgetD : ss.getD a [] = ss[a] := by rw [List.getD_eq_getElem?_getD, List.getElem?_eq_getElem hal]; rfl
  have HG := Lib.hid hgetD
  have HT := Lib.hid htu
  have H128 := Lib.hid h128
  obtain ⟨A3, c3, rfl, -, -, -, -⟩ := htu
  clear h128 hgetD
  gi_wp2_with fail
  refine ⟨trivial, ?_⟩
  refine (callsIn_wide.2 (clone_any _ ss[a] w1 (B := w.heap.size) B1.out.size HT.out (by rw [H128.out]; omega))).mono ?_
  rintro e w2 ⟨y, rfl, hoy, b2⟩
  have B2 := Lib.hid (B1.out.trans (b2.mono B1.out.size))
  have C2 := Lib.hid ((b2.block _ (heap_lt C0.out)).trans C0.out)
  have C3 : Hid (Boxed w2 (w.heap.size + 1) 3 (.int .i64 (a : Int))) := Lib.hid ((b2.block _ C1.out.lt).trans C1.out)
  have hoy' : w2.ownsRow w1.heap.size 5 1 y 128 (ss[a].map u8) := by rw [← H128.out]; exact hoy
  rcases hoy'.2 with ⟨_, e⟩ | ⟨g, cap, cur, e, hge, hgc, -⟩
  · cases e
  subst e
  have OY := Lib.hid hoy'
  have GC := Lib.hid hgc
  have LG := Lib.hid (show w.heap.size + 1 < w1.heap.size ∧ w1.heap.size ≤ g from ⟨C1.out.lt, hge⟩)
  have hcw : ∀ o : Obj, (w2.alloc o).cell? ⟨w.heap.size, 1, none⟩ = some (.slice A2 ws.length c2) := fun o => ((below_new w2 o).cell (p := ⟨w.heap.size, 1, none⟩) (heap_lt C2.out)).trans (cell2_of C2.out).2
  clear hoy hoy' b2 hge hgc k0 k1 k2 hcu C0 C1
  gi_wp2_with fail
  have hu0 : Boxed (w2.alloc (.cells #[.slice (some ⟨g, 0, none⟩) 128 cap] 34)) w2.heap.size 34 (.slice (some ⟨g, 0, none⟩) 128 cap) := heap_alloc_self _ _
  have hub : Below w2.heap.size w2 (w2.alloc (.cells #[.slice (some ⟨g, 0, none⟩) 128 cap] 34)) := below_new _ _
  generalize w2.alloc (.cells #[.slice (some ⟨g, 0, none⟩) 128 cap] 34) = u at hu0 hub ⊢
  refine ⟨trivial, ?_⟩
  refine (callsIn_wide.2 (pieces_made A2 ws.length c2 _ _ u)).mono ?_
  rintro e w3 ⟨rfl, he2⟩
  have hBW : Boxed w3 u.heap.size 27 (.slice A2 ws.length c2) := by rw [he2]; exact (Boxed.new u _ _).alloc _
  have hBK : Boxed w3 (u.heap.size + 1) 91 (.func (.func 50) #[] #[]) := by
    rw [he2]
    have := Boxed.new (u.alloc (.cells #[.slice A2 ws.length c2] 27)) 91 (.func (.func 50) #[] #[])
    rwa [World.size_alloc] at this
  have hb2 : Below u.heap.size u w3 := by rw [he2]; exact (below_new _ _).alloc (by simp) _
  clear he2
  have BU := Lib.hid (hub.trans (hb2.mono hub.size))
  have B3 := Lib.hid (B2.out.trans (BU.out.mono B2.out.size))
  have LW : Hid (w.heap.size + 1 < w1.heap.size ∧ w1.heap.size ≤ g ∧ g < w2.heap.size ∧ w2.heap.size < u.heap.size ∧ u.heap.size ≤ w3.heap.size) := Lib.hid ⟨LG.out.1, LG.out.2, heap_lt GC.out, hu0.lt, hb2.size⟩
  have O3 := Lib.hid (owns_below OY.out BU.out)
  have D3 : Hid (Boxed w3 w2.heap.size 34 (.slice (some ⟨g, 0, none⟩) 128 cap)) := Lib.hid ((hb2.block _ hu0.lt).trans hu0)
  have E3 : Hid (Boxed w3 (w.heap.size + 1) 3 (.int .i64 (a : Int))) := Lib.hid ((BU.out.block _ C3.out.lt).trans C3.out)
  have hln : (all128 ws).length = ws.length := by simp [all128]
  have hlk : ∀ k ∈ all128 ws, k ≤ 128 := fun k hk => by rw [List.eq_of_mem_replicate hk]; omega
  have hl128 : ∀ i, i < (all128 ws).length → (all128 ws).getD i 0 = 128 := fun i hi => by
    rw [List.getD_eq_getElem?_getD, List.getElem?_eq_getElem hi]; simp [all128]
  clear hu0 hub hb2 hcw OY GC C2 C3 LG
  gi_wp2_with fail
  refine wpIn_rangeFunc_ownF rfl (by omega) (gf := 74) (lb := #[.pointer (some ⟨u.heap.size, 0, none⟩), .pointer (some ⟨u.heap.size + 1, 0, none⟩)]) rfl trivial (enters_of Try.func74 (by kernel_rfl) rfl)
    (encs := encP) (Kp := KeepP w.heap.size) (S := fun xs : List (Pc w3 w.heap.size ws (all128 ws)) => xs.map (·.i) = List.range ws.length) (Sp := fun _ => True) (N := ws.length) (w0 := w3)
    (fun l J Jx W hW hJ hJx hY h0 => pieces1_whole 2 (by omega) l u.heap.size (u.heap.size + 1) w.heap.size w3 ws (all128 ws) hln hlk HM.out.1.w HM.out.1.fits.m _ (H2.out.below B3.out) (fun _ => True) (fun _ _ _ _ => trivial) (fun W i hi _ => callsIn_wide.2 ((whole_any _ W).mono (by rintro e W' ⟨rfl, rfl⟩; exact ⟨by have := hl128 i hi; rw [List.getD_eq_getElem?_getD, List.getElem?_eq_getElem hi] at this; rw [show (all128 ws)[i] = 128 from this]; rfl, rfl⟩))) J Jx W hJ hY (by have := hW.size; have := LW.out; omega) (hW.mono (by have := LW.out; omega)) ((hW.block _ hBW.lt).trans hBW) ((hW.block _ hBK.lt).trans hBK) trivial h0)
    KeepP.trans (fun W l o o' hl h ho _ => KeepP.putObj W l o o' (by have := LW.out; omega) h ho) (Below.refl _ _) (fun _ => rfl)
    (fun pre W => (W.ownsRow w1.heap.size 5 1 (.slice (some ⟨g, 0, none⟩) 128 cap) 128 ((seeAll ss[a] a (came pre)).map u8) ∧ Boxed W w2.heap.size 34 (.slice (some ⟨g, 0, none⟩) 128 cap) ∧ Boxed W (w.heap.size + 1) 3 (.int .i64 (a : Int))) ∧ Below w.heap.size w3 W)
    (fun _ _ _ => False)
    (OwnFrom.and (fun s W W' row h hg hr => ⟨owns_turned h.1 hg (fun r e => (hr r e).2), heap_turned h.2.1 hg (fun r e => (hr r e).2), heap_turned h.2.2 hg (fun r e => (hr r e).2)⟩) (ownFrom_below (by have := LW.out; omega) (by have := LW.out; omega)))
    (fun _ _ _ _ _ hs _ _ => hs)
    ⟨⟨O3.out, D3.out, E3.out⟩, Below.refl _ _⟩
    (fun x => { tmps := #[.agg #[.slice (some ⟨b0, o0, none⟩) ss.length c1, .slice A2 ws.length c2], .int .i64 (a : Int), .pointer (some ⟨w.heap.size, 0, none⟩), .pointer (some ⟨w.heap.size + 1, 0, none⟩), .slice none 0 0, .int .i64 0, .int .i64 0, .pointer (some ⟨w2.heap.size, 0, none⟩), .int .i64 (ws[x.i]'x.hi).1, x.v,
      .agg #[.slice (some ⟨b0, o0, none⟩) ss.length c1, .slice A2 ws.length c2], .int .i64 (a : Int), .int .i64 0, .int .i64 0, .bool false, undef, .pointer (some ⟨w.heap.size, 0, none⟩), .slice (some ⟨b0, o0, none⟩) ss.length c1, .int .i64 (a : Int), .pointer (some ⟨b0, o0 + a, none⟩), .slice A3 ss[a].length c3, .slice (some ⟨g, 0, none⟩) 128 cap,
      .pointer (some ⟨w.heap.size, 1, none⟩), .slice A2 ws.length c2, .func (.func 74) #[] #[.pointer (some ⟨u.heap.size, 0, none⟩), .pointer (some ⟨u.heap.size + 1, 0, none⟩)], .int .i64 (ws[x.i]'x.hi).1, x.v, undef, undef, undef, undef, undef, undef, undef], defers := [] }) ?assign ?body ?done ?stop
  case assign =>
    intro l x W K hK
    dsimp only [encP]
    gi_wp2
    exact hK
  case body =>
    rintro l pre x W ⟨⟨hs, hd, he⟩, hB⟩ hlt
    obtain ⟨hok0, hok1, hok2⟩ := HM.out.1.w _ (List.getElem_mem x.hi)
    have h128 : (seeAll ss[a] a (came pre)).length = 128 := by
      rw [seeAll_length (fun p hp => by rw [H128.out]; exact came_le HM.out.1.w pre p hp), H128.out]
    have hpl : ((ws[x.i]'x.hi).2.take ((all128 ws).getD x.i 0)).length ≤ 128 := by rw [List.length_take]; omega
    have hx : Txt W w.heap.size x.v ((ws[x.i]'x.hi).2.take ((all128 ws).getD x.i 0)) := x.ht.below hB
    have hsnoc : seeAll ss[a] a (came (pre ++ [x])) = if (ws[x.i]'x.hi).1.toNat = a then lay (seeAll ss[a] a (came pre)) ((ws[x.i]'x.hi).2.take ((all128 ws).getD x.i 0)) else seeAll ss[a] a (came pre) := by
      rw [came_snoc, seeAll_snoc]
    have d0 := hd.cell
    have e0 := he.cell
    by_cases hea : (ws[x.i]'x.hi).1 = (a : Int)
    · rw [if_pos (by omega)] at hsnoc
      have hlay := CallsIn.inRound l (F := Fence.wide) (n := 0) (callsIn_wide.2 (lay_any g cap w1.heap.size (seeAll ss[a] a (came pre)) ((ws[x.i]'x.hi).2.take ((all128 ws).getD x.i 0)) x.v W (by rw [h128]; exact hs) hx (by rw [h128]; exact hpl)))
      rw [h128] at hlay
      have HSN := Lib.hid hsnoc
      have HD := Lib.hid hd
      have HE := Lib.hid he
      have HLAY := Lib.hid hlay
      have HG2 := Lib.hid (owns_block hs (g := g) rfl)
      rw [hea]
      clear hs hd he h128 hpl hx hsnoc hlay hok2
      gi_wp2_with (refine ⟨trivial, ?_⟩; refine HLAY.out.mono ?_; rintro e W' ⟨⟨v, rfl⟩, hrow', hgr⟩)
      obtain ⟨cur2, hgc2, -⟩ := HG2.out
      have hw2 : Below w.heap.size W W' := (Below.refl _ _).grown hgr (Nat.le_trans (by have := LW.out; omega) hB.size) (fun k hk => by cases hk; have := LW.out; omega)
      refine ⟨KeepsOthers.of_grownBy hgr (fun j o e ho => by cases e; rw [hgc2] at ho; cases ho; rfl), ⟨hw2, fun bn t v ht hb => heap_other ht hb hgc2 hgr⟩, ⟨?_, heap_other (by decide) HD.out hgc2 hgr, heap_other (by decide) HE.out hgc2 hgr⟩, hB.trans hw2⟩
      rw [HSN.out]
      exact hrow'
    · rw [if_neg (by omega)] at hsnoc
      have HSN := Lib.hid hsnoc
      have HD := Lib.hid hd
      have HE := Lib.hid he
      have HS := Lib.hid hs
      have hea' : ((ws[x.i]'x.hi).1 == (a : Int)) = false := by rw [beq_eq_false_iff_ne]; exact hea
      clear hs hd he h128 hpl hx hsnoc hok2
      gi_wp2_with fail
      refine ⟨KeepsOthers.refl _, KeepP.refl _ _, ⟨?_, HD.out, HE.out⟩, hB⟩
      rw [HSN.out]
      exact HS.out
  case done =>
    rintro D xs W hD hS ⟨⟨hs, hd, he⟩, hB⟩ hK
    rw [came_all hln hS] at hs
    have d0 := hd.cell
    have hres : (readS ss ws (a : Int)) = seeAll ss[a] a (piecesOf ws (all128 ws)) := by rw [HRS.out, HG.out]
    have hrl : (readS ss ws (a : Int)).length = 128 := by
      rw [hres, seeAll_length (fun p hp => by rw [H128.out]; exact (pieces_le HM.out.1.w p hp).1), H128.out]
    have HRL := Lib.hid hrl
    have HRE := Lib.hid hres
    have HS := Lib.hid hs
    clear hs hd he hres hrl
    gi_wp2_with fail
    refine ⟨by simp, .inl ⟨_, _, rfl, run_takeDeferred hK, ?_⟩⟩
    have hturn : ∀ r, some D = some r → ∃ o : Obj, W.heap[r]? = some o ∧ o.isCells = false := fun r e => by cases e; exact ⟨_, hK, rfl⟩
    refine ⟨_, results_tmp2 rfl _ _ _, _, rfl, ?_, ?_⟩
    · rw [HRL.out, HRE.out]
      exact owns_mono (owns_turned HS.out (grownBy_putObj' W D (.deferred none)) hturn) (by have := LW.out; omega)
    · exact B3.out.trans (hB.trans ((Below.refl _ _).grown (grownBy_putObj' W D (.deferred none)) (by have := (Nat.le_trans B3.out.size hB.size); exact this) (fun k hk => by cases hk; have := LW.out; omega)))
  case stop =>
    rintro D c pre W _ _ h _
    exact h.elim

theorem read_any (d : Value) (ss : List Bs) (ws : List Wr) (n : Int) (w : World) (h : DiskIn w w.heap.size d ss ws) :
    Calls Try.prog 27 #[d, .int .i64 n] w fun e w' => ∃ y, e = .returned (.tuple #[y, .int .i64 (atE ss ws n)]) ∧ w'.ownsRow w.heap.size 5 1 y (readS ss ws n).length ((readS ss ws n).map u8) ∧ Below w.heap.size w w' := by
  by_cases h0 : atE ss ws n = 0
  · rw [h0]; exact read_good d ss ws n w h h0
  · exact read_bad d ss ws n w h h0
end Go.Proofs.Ytdjoflhcagfmiaa

/-
  What a byte that is turned does to what is seen, and to what lasts.
  Conditions: none.
-/
set_option linter.unusedVariables false
set_option linter.unusedSimpArgs false
set_option maxRecDepth 100000
namespace Go.Proofs.Ytdjoflhcagfmiaa
open Go.RowKit

theorem spoilE_zero {ss : List Bs} {ws : List Wr} {n k : Int} (h : spoilE ss ws n k = 0) : May ss ws ∧ (0 ≤ n ∧ n < 32) ∧ (0 ≤ k ∧ k < 128) := by
  rw [spoilE] at h
  by_cases ha : atE ss ws n = 0
  · rw [if_pos ha] at h
    by_cases hk : 0 ≤ k ∧ k < 128
    · exact ⟨(atE_may ha).1, (atE_may ha).2, hk⟩
    · rw [if_neg hk] at h; exact absurd h (by decide)
  · rw [if_neg ha] at h; exact absurd h ha
theorem atE_good {ss : List Bs} {ws : List Wr} {n : Int} (h : May ss ws) (h0 : 0 ≤ n ∧ n < 32) : atE ss ws n = 0 := by rw [atE, if_pos (mayB_iff.2 h), if_pos h0]
theorem spoilE_good {ss : List Bs} {ws : List Wr} {n k : Int} (h : May ss ws) (h0 : 0 ≤ n ∧ n < 32) (h1 : 0 ≤ k ∧ k < 128) : spoilE ss ws n k = 0 := by rw [spoilE, if_pos (atE_good h h0), if_pos h1]
theorem turned_length (ss : List Bs) (n k : Nat) (x : UInt8) : (turned ss n k x).length = ss.length := by rw [turned, List.length_modify]
theorem turned_twice (ss : List Bs) (n k : Nat) (x y : UInt8) : turned (turned ss n k x) n k y = turned ss n k (x ^^^ y) := by
  rw [turned, turned, turned, List.modify_modify_eq]
  congr 1
  funext s
  show (s.modify k _).modify k _ = _
  rw [List.modify_modify_eq]
  congr 1
  funext b
  show (b ^^^ x) ^^^ y = b ^^^ (x ^^^ y)
  rw [UInt8.xor_assoc]
theorem turned_at {ss : List Bs} {n k : Nat} {x : UInt8} (h : n < ss.length) : (turned ss n k x)[n]? = some (ss[n].modify k fun b => b ^^^ x) := by
  rw [turned, List.getElem?_modify, List.getElem?_eq_getElem h]; simp
theorem may_turned {ss : List Bs} {ws : List Wr} (h : May ss ws) (n k : Nat) (x : UInt8) : May (turned ss n k x) ws := by
  refine ⟨by rw [turned_length]; exact h.n, h.m, fun s hs => ?_, h.w⟩
  obtain ⟨j, hj, rfl⟩ := List.getElem_of_mem hs
  have hjs : j < ss.length := by rwa [turned_length] at hj
  obtain ⟨T, hT⟩ : ∃ T, T = (turned ss n k x)[j] := ⟨_, rfl⟩
  have e : (turned ss n k x)[j]? = some T := by rw [hT]; exact List.getElem?_eq_getElem hj
  rw [← hT]
  rw [turned, List.getElem?_modify, List.getElem?_eq_getElem hjs] at e
  have e' := Option.some.inj e
  rw [← e']
  split
  · rw [List.length_modify]; exact h.s _ (List.getElem_mem _)
  · exact h.s _ (List.getElem_mem _)
theorem seeAll_hid {a : Nat} : ∀ {ps : List (Nat × Bs)} {s t : Bs}, s.length = 128 → t.length = 128 → (∀ p ∈ ps, p.2.length = 128) → (∃ p ∈ ps, p.1 = a) → seeAll s a ps = seeAll t a ps
  | [], _, _, _, _, _, h => by obtain ⟨p, hp, _⟩ := h; cases hp
  | p :: ps, s, t, hs, ht, hl, h => by
    rw [seeAll_cons, seeAll_cons]
    have hp := hl p (by simp)
    by_cases hpa : p.1 = a
    · rw [if_pos hpa, if_pos hpa, lay_whole (by omega), lay_whole (by omega)]
    · rw [if_neg hpa, if_neg hpa]
      obtain ⟨q, hq, hqa⟩ := h
      rcases List.mem_cons.1 hq with rfl | hq
      · exact absurd hqa hpa
      · exact seeAll_hid hs ht (fun p hp => hl p (by simp [hp])) ⟨q, hq, hqa⟩
theorem seeAll_none {a : Nat} : ∀ {ps : List (Nat × Bs)} {s : Bs}, (∀ p ∈ ps, p.1 = a → p.2 = []) → seeAll s a ps = s
  | [], _, _ => rfl
  | p :: ps, s, h => by
    rw [seeAll_cons]
    by_cases hpa : p.1 = a
    · rw [if_pos hpa, h p (by simp) hpa, lay_nil]; exact seeAll_none (fun q hq => h q (by simp [hq]))
    · rw [if_neg hpa]; exact seeAll_none (fun q hq => h q (by simp [hq]))
theorem pieces_mem {ws : List Wr} {ks : List Nat} {p : Nat × Bs} (h : p ∈ piecesOf ws ks) : ∃ i, ∃ (hi : i < ws.length) (hk : i < ks.length), p = (ws[i].1.toNat, ws[i].2.take ks[i]) := by
  obtain ⟨i, hi, rfl⟩ := List.getElem_of_mem h
  have hl : i < ws.length ∧ i < ks.length := by rw [piecesOf, List.length_zipWith] at hi; omega
  refine ⟨i, hl.1, hl.2, ?_⟩
  have e := piecesOf_at hl.1 hl.2
  rw [List.getElem?_eq_getElem hi] at e
  exact Option.some.inj e
theorem readS_good {ss : List Bs} {ws : List Wr} {m : Nat} (h : May ss ws) (hm : m < 32) : ∃ hl : m < ss.length, readS ss ws (m : Int) = seeAll ss[m] m (piecesOf ws (all128 ws)) := by
  have hl : m < ss.length := by rw [h.n]; exact hm
  refine ⟨hl, ?_⟩
  rw [readS, if_pos (atE_good h ⟨by omega, by omega⟩), Int.toNat_natCast, List.getD_eq_getElem?_getD, List.getElem?_eq_getElem hl]; rfl
theorem readS_length {ss : List Bs} {ws : List Wr} {m : Nat} (h : May ss ws) (hm : m < 32) : (readS ss ws (m : Int)).length = 128 := by
  obtain ⟨hl, e⟩ := readS_good h hm
  have h1 := h.s _ (List.getElem_mem hl)
  rw [e, seeAll_length (fun p hp => by rw [h1]; exact (pieces_le h.w p hp).1), h1]
/-- Where a write waits. -/
theorem read_waits {ss : List Bs} {ws : List Wr} {m k : Nat} {x : UInt8} (h : May ss ws) (hm : m < 32) (hw : ∃ i, ∃ hi : i < ws.length, ws[i].1 = (m : Int)) : readS (turned ss m k x) ws (m : Int) = readS ss ws (m : Int) := by
  obtain ⟨h1, e1⟩ := readS_good (may_turned h m k x) hm
  obtain ⟨h2, e2⟩ := readS_good h hm
  rw [e1, e2]
  refine seeAll_hid ((may_turned h m k x).s _ (List.getElem_mem _)) (h.s _ (List.getElem_mem _)) (fun p hp => ?_) ?_
  · obtain ⟨i, hi, hk, rfl⟩ := pieces_mem hp
    have := (h.w _ (List.getElem_mem hi)).2.2
    show (List.take _ _).length = 128
    rw [List.length_take]
    simp only [all128, List.getElem_replicate]
    omega
  · obtain ⟨i, hi, he⟩ := hw
    have hk : i < (all128 ws).length := by rw [all128, List.length_replicate]; exact hi
    refine ⟨_, List.mem_of_getElem? (piecesOf_at hi hk), ?_⟩
    show (ws[i].1).toNat = m
    rw [he]; rfl
/-- Where none does. -/
theorem read_none {ss : List Bs} {ws : List Wr} {m : Nat} (h : May ss ws) (hm : m < 32) (hw : ∀ i, ∀ hi : i < ws.length, ws[i].1 ≠ (m : Int)) : ∃ hl : m < ss.length, readS ss ws (m : Int) = ss[m] := by
  obtain ⟨h2, e2⟩ := readS_good h hm
  refine ⟨h2, e2.trans (seeAll_none (fun p hp hpa => ?_))⟩
  obtain ⟨i, hi, hk, rfl⟩ := pieces_mem hp
  have h0 := (h.w _ (List.getElem_mem hi)).1
  have hpa' : (ws[i].1).toNat = m := hpa
  exact absurd (by omega) (hw i hi)
theorem modify_xor {s : Bs} {k : Nat} {x : UInt8} (hk : k < s.length) : (s.modify k fun b => b ^^^ x) = s ↔ x = 0 := by
  constructor
  · intro e
    have h1 : (s.modify k fun b => b ^^^ x)[k]? = s[k]? := by rw [e]
    rw [List.getElem?_modify, List.getElem?_eq_getElem hk] at h1
    simp only [↓reduceIte, Option.map_eq_map, Option.map_some, Option.some.injEq] at h1
    have h2 : s[k] ^^^ (s[k] ^^^ x) = s[k] ^^^ s[k] := by rw [h1]
    rwa [← UInt8.xor_assoc, UInt8.xor_self, UInt8.zero_xor] at h2
  · intro e
    subst e
    have : (fun b : UInt8 => b ^^^ 0) = id := by funext b; exact UInt8.xor_zero
    rw [this, List.modify_id]
theorem read_turned {ss : List Bs} {ws : List Wr} {m k : Nat} {x : UInt8} (h : May ss ws) (hm : m < 32) (hk : k < 128) (hw : ∀ i, ∀ hi : i < ws.length, ws[i].1 ≠ (m : Int)) : readS ss ws (m : Int) = readS (turned ss m k x) ws (m : Int) ↔ x = 0 := by
  obtain ⟨h1, e1⟩ := read_none (may_turned h m k x) hm hw
  obtain ⟨h2, e2⟩ := read_none h hm hw
  have e3 : (turned ss m k x)[m] = ss[m].modify k fun b => b ^^^ x := Option.some.inj ((List.getElem?_eq_getElem h1).symm.trans (turned_at h2))
  rw [e1, e2, e3]
  have hs : ss[m].length = 128 := h.s _ (List.getElem_mem h2)
  exact ⟨fun e => (modify_xor (by omega)).1 e.symm, fun e => ((modify_xor (by omega)).2 e).symm⟩
def zeros (n : Nat) : List Int := List.replicate n 0
theorem zeros_length (n : Nat) : (zeros n).length = n := List.length_replicate
theorem crash_zeros {ss : List Bs} {ws : List Wr} (h : May ss ws) : crashE ss ws (zeros ws.length) = 0 ∧ crashS ss ws (zeros ws.length) = ss := by
  have h0 : crashE ss ws (zeros ws.length) = 0 := crashE_zero h (zeros_length _) (fun k hk => by rw [List.eq_of_mem_replicate hk]; exact ⟨by decide, by decide⟩)
  refine ⟨h0, ?_⟩
  rw [crashS, if_pos h0, comes]
  refine List.ext_getElem? fun j => ?_
  rw [layAll_at]
  cases hj : ss[j]? with
  | none => rfl
  | some s =>
    show some (seeAll s j _) = some s
    rw [seeAll_none (fun p hp hpa => ?_)]
    obtain ⟨i, hi, hk, rfl⟩ := pieces_mem hp
    show List.take _ _ = []
    have : ((zeros ws.length).map Int.toNat)[i] = 0 := by simp [zeros]
    rw [this]; rfl
end Go.Proofs.Ytdjoflhcagfmiaa

/-
  Whether a disk is great: yes or no.
  Conditions: none.
-/
set_option linter.unusedVariables false
set_option linter.unusedSimpArgs false
set_option maxRecDepth 100000
namespace Go.Proofs.Ytdjoflhcagfmiaa
open Go.RowKit

def lenV : Value → Nat
  | .slice _ n _ => n
  | _ => 0
theorem own_snoc8 {w : World} {base e i : Nat} {v : Value} {n : UInt8} (h : w.ownsRow base e 1 v (i + 1) ((List.replicate i n).map u8 ++ [.int .u8 (n.toNat : Int)])) : w.ownsRow base e 1 v (i + 1) ((List.replicate (i + 1) n).map u8) := by
  rw [List.replicate_succ', List.map_append]
  exact h
/-- It answers yes or no. -/
def Said (e : Ending) : Prop := ∃ g : Bool, e = .returned (.bool g)
set_option maxRecDepth 100000 in
set_option maxHeartbeats 2000000 in
theorem great_any (d : Value) (ss : List Bs) (ws : List Wr) (w : World) (h : DiskIn w w.heap.size d ss ws) :
    Calls Try.prog 15 #[d] w fun e w' => Said e ∧ Below w.heap.size w w' := by
  obtain ⟨v1, v2, rfl, h1, h2⟩ := h
  have H1 := Lib.hid h1
  have H2 := Lib.hid h2
  obtain ⟨A1, c1, rfl, -, -, -, -⟩ := h1
  obtain ⟨A2, c2, rfl, -, -, -, -⟩ := h2
  have hb1 := heap_alloc_self w (.cells #[.slice A1 ss.length c1, .slice A2 ws.length c2] 29)
  have HB0 := Lib.hid (below_new w (.cells #[.slice A1 ss.length c1, .slice A2 ws.length c2] 29))
  go_enter Try.func15, Try.ntmps15
  go_wp2_with fail
  generalize w.alloc (.cells #[.slice A1 ss.length c1, .slice A2 ws.length c2] 29) = w1 at HB0 hb1 ⊢
  obtain ⟨k0, k1⟩ := cell2_of hb1
  clear hb1
  go_loopw [3, 4] (fun s3 s4 wr => ∃ (i : Nat) (n : Int), i ≤ ss.length ∧ s3 = .int .i64 n ∧ s4 = .int .i64 i ∧ wr = w1) (fun _ s4 _ => ss.length - (intOf s4).toNat)
  case atStart => exact ⟨0, _, by omega, rfl, rfl, by first | rfl | trivial⟩
  case round =>
    obtain ⟨i, n, hi, rfl, rfl, rfl⟩ := hrel
    have hbnd : (ss.length : Int) ≤ 9223372036854775807 := by have := H1.out.le; unfold maxLen at *; omega
    rcases (by omega : (i < ss.length ∧ n ≤ 200000) ∨ (i < ss.length ∧ ¬ n ≤ 200000) ∨ ¬ i < ss.length) with ⟨hlt, hn'⟩ | hno
    · have hlt' : (i : Int) < ss.length := by omega
      obtain ⟨b, off, u, rfl, hbb, hc, ht⟩ := (H1.out.below HB0.out).at hlt
      obtain ⟨A3, c3, rfl, -, -, -, -⟩ := ht
      go_wp2_with fail
      go_roundw
      case measure => simp [intOf]; omega
      case rel => exact ⟨i + 1, _, by omega, rfl, by go_num, by first | rfl | trivial⟩
    · rcases hno with ⟨hlt, hn'⟩ | hlt
      all_goals
        first
        | have hlt' : (i : Int) < ss.length := by omega
        | have hlt' : ¬ (i : Int) < ss.length := by omega
        clear hlt
        go_wp2_with fail
        go_loopw [3, 5] (fun s3 s5 wx => ∃ (k : Nat) (n : Int), k ≤ ws.length ∧ s3 = .int .i64 n ∧ s5 = .int .i64 k ∧ wx = wr) (fun _ s5 _ => ws.length - (intOf s5).toNat)
        case atStart => exact ⟨0, _, by omega, rfl, rfl, by first | rfl | trivial⟩
        case round =>
          clear hlt'
          obtain ⟨k, n2, hk, rfl, rfl, rfl⟩ := hrel
          have hbn2 : (ws.length : Int) ≤ 9223372036854775807 := by have := H2.out.le; unfold maxLen at *; omega
          rcases (by omega : (k < ws.length ∧ n2 ≤ 200000) ∨ (k < ws.length ∧ ¬ n2 ≤ 200000) ∨ ¬ k < ws.length) with ⟨hkt, hn2⟩ | hno
          · have hkt' : (k : Int) < ws.length := by omega
            obtain ⟨b, off, u, rfl, hbb, hc0, hc, ht⟩ := (H2.out.below HB0.out).at hkt
            obtain ⟨A3, c3, rfl, -, -, -, -⟩ := ht
            go_wp2_with fail
            go_roundw
            case measure => simp [intOf]; omega
            case rel => exact ⟨k + 1, _, by omega, rfl, by go_num, by first | rfl | trivial⟩
          · rcases hno with ⟨hkt, hn2⟩ | hkt
            · have hkt' : (k : Int) < ws.length := by omega
              have hn3 : 200000 < n2 := by omega
              clear hkt
              go_wp2_with fail
              go_ret
              exact ⟨⟨_, rfl⟩, HB0.out⟩
            · have hkt' : ¬ (k : Int) < ws.length := by omega
              clear hkt
              by_cases hn3 : 200000 < n2
              · go_wp2_with fail
                go_ret
                exact ⟨⟨_, rfl⟩, HB0.out⟩
              · go_wp2_with fail
                go_ret
                exact ⟨⟨_, rfl⟩, HB0.out⟩

/-- What is left of a write of 7s to sector 20, of a new disk. -/
theorem nums_one (w : World) (b : Nat) (k : Int) (h : w.heap[b]? = some (.cells #[.int .i64 k] 3 (0, 0))) : NumsIn w w.heap.size (.slice (some ⟨b, 0, none⟩) 1 1) [k] :=
  ⟨_, 1, rfl, Nat.le_refl _, by unfold maxLen; omega, fun e => (by cases e), fun _ => ⟨b, 0, rfl, heap_lt h, fun j hj => by
    obtain rfl : j = 0 := by simpa using hj
    rw [cell_of_row _ _ _ _ _ _ h]; rfl⟩⟩
end Go.Proofs.Ytdjoflhcagfmiaa
