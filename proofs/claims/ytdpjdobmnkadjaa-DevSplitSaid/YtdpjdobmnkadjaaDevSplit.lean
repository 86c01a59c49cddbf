/-
  The walk of DevSplit: power that fails behind some of the writes that wait, and again behind the rest, leaves what it would leave at once.
  Conditions: none.
-/
import Derived.Test.YtdpjdobmnkadjaaDevAlive
import Derived.Deep.CutRange
set_option linter.unusedVariables false
set_option linter.unusedSimpArgs false
namespace Go.Proofs.Ytdpjdobmnkadjaa
open Go.RowKit

/-- A box that holds a disk of the call's own. -/
def BoxD (W : World) (p lo : Nat) (ss : List Bs) (ws : List Wr) : Prop := ∃ x1 x2, W.heap[p]? = some (.cells #[x1, x2] 25 (0, 0)) ∧ SecsAt W lo x1 ss ∧ WtsAt W lo x2 ws
theorem BoxD.below {W W' : World} {p lo : Nat} {ss : List Bs} {ws : List Wr} (h : BoxD W p lo ss ws) (b : Below W.heap.size W W') : BoxD W' p lo ss ws := by
  obtain ⟨x1, x2, h1, h2, h3⟩ := h
  exact ⟨x1, x2, (b.block _ (heap_lt h1)).trans h1, h2.below b, h3.below b⟩

theorem infoInt : (Try.prog.info? 3).map (fun i => (i.zero, i.size, i.bytes)) = some (some (.int .i64 0), 1, 8) := by kernel_rfl
theorem may_take {ss : List Bs} {ws : List Wr} (h : May ss ws) (k : Nat) : May ss (ws.take k) := ⟨h.n, by rw [List.length_take]; have := h.m; omega, h.s, fun x hx => h.w x (List.mem_of_mem_take hx)⟩
theorem may_drop {ss ts : List Bs} {ws : List Wr} (h : May ss ws) (h' : May ts []) (k : Nat) : May ts (ws.drop k) := ⟨h'.n, by rw [List.length_drop]; have := h.m; omega, h'.s, fun x hx => h.w x (List.mem_of_mem_drop hx)⟩
theorem comes_split (ss : List Bs) (ws : List Wr) (ks : List Nat) (k : Nat) (hl : ks.length = ws.length) : comes (comes ss (ws.take k) (ks.take k)) (ws.drop k) (ks.drop k) = comes ss ws ks := by
  unfold comes
  rw [← layAll_append, ← piecesOf_append _ _ _ _ (by rw [List.length_take, List.length_take, hl]), List.take_append_drop, List.take_append_drop]
theorem WtsIn.take {W : World} {B n c k : Nat} {A : Option Addr} {ws : List Wr} (h : WtsIn W B (.slice A n c) ws) (hk : k ≤ ws.length) : WtsIn W B (.slice A k c) (ws.take k) := by
  obtain ⟨A', c', e, h1, h2, hn, h3⟩ := h
  cases e
  have hl : (ws.take k).length = k := by rw [List.length_take]; omega
  refine ⟨A, c, by rw [hl], by omega, h2, hn, fun hp => ?_⟩
  obtain ⟨b, off, ha, hb, hc⟩ := h3 (by omega)
  exact ⟨b, off, ha, hb, fun j hj => by simpa using hc j (by omega)⟩
theorem yieldsIf_slice_from {P : Program} {ops : Array Oper} {S : World → Prop} {op : Oper} {a : Act} (hw : Region.wanted op (yielded ops a.tmps) = true) (t : TypeId) (x lo : Operand) (ho : op.op = .slice t x (some lo) none none)
    {A : Option Addr} {n c m s e : Nat} {i : TypeInfo} (hx : a.eval x = .slice A n c) (hl : a.eval lo = .int .i64 (m : Int)) (ht : P.underlying t = some (.slice e)) (hi : P.info? e = some i) (hs : i.size = s) (hm : m ≤ n) (hnc : n ≤ c) {A' : Option Addr} (hA : A' = if c = m then A else A.map (·.add (m * s))) :
    YieldsIf P ops S op (.slice A' (n - m) (c - m)) a := .inl ⟨hw, fun w _ => by
  subst hA
  have he : P.elem t = e := by simp [Program.elem, ht]
  unfold execOp
  simp only [ho, hx, hl, Option.map_some, Option.map_none]
  have hm' : (m : Int) ≤ n := by omega
  have hm0 : (0 : Int) ≤ m := by omega
  simp [Instr.sliceAt, Instr.slice, run_underlying ht, Instr.sliceBounds, run_sliceBound, sizeOf, typeInfo, hi, hs, hm', hm0]⟩
theorem WtsIn.drop {W : World} {B n c m : Nat} {A : Option Addr} {ws : List Wr} (h : WtsIn W B (.slice A n c) ws) (hm : m ≤ ws.length) : WtsIn W B (.slice (if c = m then A else A.map (·.add (m * 2))) (n - m) (c - m)) (ws.drop m) := by
  obtain ⟨A', c', e, h1, h2, hn, h3⟩ := h
  cases e
  have hl : (ws.drop m).length = ws.length - m := List.length_drop
  refine ⟨_, c - m, by rw [hl], by omega, by omega, fun e => ?_, fun hp => ?_⟩
  · by_cases hcm : c = m
    · omega
    · rw [if_neg hcm] at e
      have : A = none := by cases A with | none => rfl | some a => cases e
      have := hn this
      omega
  · obtain ⟨b, off, ha, hb, hc⟩ := h3 (by omega)
    subst ha
    rw [if_neg (by omega)]
    refine ⟨b, off + m * 2, by simp [Addr.add], hb, fun j hj => ?_⟩
    obtain ⟨u, c0, c1, ht⟩ := hc (m + j) (by omega)
    refine ⟨u, ?_, ?_, ?_⟩
    · rw [show off + m * 2 + j * 2 = off + (m + j) * 2 from by omega, c0]; simp
    · rw [show off + m * 2 + j * 2 + 1 = off + (m + j) * 2 + 1 from by omega, c1]
    · simpa using ht
theorem NumsIn.drop {W : World} {B n c m : Nat} {A : Option Addr} {ks : List Int} (h : NumsIn W B (.slice A n c) ks) (hm : m ≤ ks.length) : NumsIn W B (.slice (if c = m then A else A.map (·.add (m * 1))) (n - m) (c - m)) (ks.drop m) := by
  obtain ⟨A', c', e, h1, h2, hn, h3⟩ := h
  cases e
  have hl : (ks.drop m).length = ks.length - m := List.length_drop
  refine ⟨_, c - m, by rw [hl], by omega, by omega, fun e => ?_, fun hp => ?_⟩
  · by_cases hcm : c = m
    · omega
    · rw [if_neg hcm] at e
      have : A = none := by cases A with | none => rfl | some a => cases e
      have := hn this
      omega
  · obtain ⟨b, off, ha, hb, hc⟩ := h3 (by omega)
    subst ha
    rw [if_neg (by omega)]
    refine ⟨b, off + m, by simp [Addr.add], hb, fun j hj => ?_⟩
    rw [show off + m + j = off + (m + j) from by omega, hc (m + j) (by omega)]; simp
theorem NumsIn.take {W : World} {B n c k : Nat} {A : Option Addr} {ks : List Int} (h : NumsIn W B (.slice A n c) ks) (hk : k ≤ ks.length) : NumsIn W B (.slice A k c) (ks.take k) := by
  obtain ⟨A', c', e, h1, h2, hn, h3⟩ := h
  cases e
  have hl : (ks.take k).length = k := by rw [List.length_take]; omega
  refine ⟨A, c, by rw [hl], by omega, h2, hn, fun hp => ?_⟩
  obtain ⟨b, off, ha, hb, hc⟩ := h3 (by omega)
  exact ⟨b, off, ha, hb, fun j hj => by simpa using hc j (by omega)⟩

set_option maxRecDepth 100000 in
set_option maxHeartbeats 2000000 in
theorem walk_split (d kv : Value) (ss : List Bs) (ws : List Wr) (ks : List Int) (n : Int) (w : World) (h : DiskIn w w.heap.size d ss ws) (hk : NumsIn w w.heap.size kv ks) :
    Calls Try.prog 7 #[d, kv, .int .i64 n] w fun e w' => e = .returned (.bool true) ∧ Below w.heap.size w w' := by
  obtain ⟨v1, v2, rfl, h1, h2⟩ := id h
  have H := Lib.hid h
  have H1 := Lib.hid h1
  have H2 := Lib.hid h2
  have K := Lib.hid hk
  obtain ⟨A1, c1, rfl, -, -, -, -⟩ := h1
  obtain ⟨A2, c2, rfl, -, -, -, -⟩ := h2
  obtain ⟨A3, c3, rfl, -, -, -, -⟩ := hk
  have hkl : (ks.length : Int) ≤ 9223372036854775807 := by have := K.out.le; unfold maxLen at *; omega
  clear h
  have hq0 := heap_alloc_self w (.cells #[.slice A1 ss.length c1, .slice A2 ws.length c2] 25)
  have hqb := below_new w (.cells #[.slice A1 ss.length c1, .slice A2 ws.length c2] 25)
  go_enter Try.func7, Try.ntmps7
  go_wp2_with fail
  generalize w.alloc (.cells #[.slice A1 ss.length c1, .slice A2 ws.length c2] 25) = q at hq0 hqb ⊢
  refine (alive_true q).mono ?_
  rintro e w1 ⟨rfl, b1⟩
  have B1 := Lib.hid (hqb.trans (b1.mono hqb.size))
  have C1 := Lib.hid ((b1.block _ (heap_lt hq0)).trans hq0)
  obtain ⟨k0, k1⟩ := cell2_of C1.out
  clear hq0 hqb b1
  go_wp2_with fail
  refine (great_any _ ss ws w1 ((H.out.below B1.out).more B1.out.size)).mono ?_
  rintro e w2 ⟨⟨gr, rfl⟩, b2⟩
  have B2 := Lib.hid (B1.out.trans (b2.mono B1.out.size))
  have C2 := Lib.hid ((b2.block _ (heap_lt C1.out)).trans C1.out)
  clear b2 k0 k1 B1 C1
  obtain ⟨k0, k1⟩ := cell2_of C2.out
  cases gr with
  | true =>
    go_wp2_with fail
    go_ret
    exact ⟨rfl, B2.out⟩
  | false =>
    by_cases hg : 1000 < (ks.length : Int)
    · go_wp2_with fail
      go_ret
      exact ⟨rfl, B2.out⟩
    · go_wp2_with fail
      refine (crash_any _ _ ss ws ks w2 ((H.out.below B2.out).more B2.out.size) ((K.out.below B2.out).more B2.out.size)).mono ?_
      rintro e w3 ⟨d3, rfl, ⟨x1, x2, rfl, hs3, hw3⟩, b3⟩
      obtain ⟨A4, c4, rfl⟩ := secs_slice hs3
      obtain ⟨A5, c5, rfl⟩ := wts_slice hw3
      have hb3 := B2.out.trans (b3.mono B2.out.size)
      have hc3 := (b3.block _ (heap_lt C2.out)).trans C2.out
      have hn3 := below_new w3 (.cells #[.slice A4 (crashS ss ws ks).length c4, .slice A5 ([] : List Wr).length c5] 25)
      have D4 := Lib.hid (show BoxD (w3.alloc (.cells #[.slice A4 (crashS ss ws ks).length c4, .slice A5 ([] : List Wr).length c5] 25)) w3.heap.size w2.heap.size (crashS ss ws ks) [] from ⟨_, _, heap_alloc_self _ _, hs3.below hn3, hw3.below hn3⟩)
      have B4 := Lib.hid (hb3.trans (hn3.mono hb3.size))
      have C4 := Lib.hid ((hn3.block _ (heap_lt hc3)).trans hc3)
      have hx4 := heap_alloc_self w3 (.cells #[.slice A4 (crashS ss ws ks).length c4, .slice A5 0 c5] 25)
      clear k0 k1 hs3 hw3 b3 hb3 hc3 hn3
      obtain ⟨k0, k1⟩ := cell2_of C4.out
      obtain ⟨s0, s1⟩ := cell2_of hx4
      by_cases he : crashE ss ws ks = 0
      · have HM := Lib.hid (crashE_may he)
        rw [he]
        by_cases hr : 0 ≤ n ∧ n ≤ ks.length
        · obtain ⟨m, hm⟩ : ∃ m : Nat, n = (m : Int) := ⟨n.toNat, by omega⟩
          subst hm
          have hm0 : (m : Int) ≤ ks.length := hr.2
          have HL := Lib.hid HM.out.2.1
          have hml : m ≤ ws.length := by have := HM.out.2.1; omega
          have hmc : (m : Int) ≤ c2 := by obtain ⟨_, _, e, h5, _⟩ := H2.out; cases e; omega
          have hmk : (m : Int) ≤ c3 := by obtain ⟨_, _, e, h5, _⟩ := K.out; cases e; omega
          clear hr he
          go_wp2_with fail
          generalize w3.alloc (.cells #[.slice A4 (crashS ss ws ks).length c4, .slice A5 0 c5] 25) = q4 at *
          have DT1 : Hid (∀ v, Below q4.heap.size q4 v → DiskIn v v.heap.size (.agg #[.slice A1 ss.length c1, .slice A2 m c2]) ss (ws.take m)) := Lib.hid (fun v hv => DiskIn.more ⟨_, _, rfl, H1.out.below (B4.out.trans (hv.mono B4.out.size)), (H2.out.below (B4.out.trans (hv.mono B4.out.size))).take hml⟩ (Nat.le_trans B4.out.size hv.size))
          have KT1 : Hid (∀ v, Below q4.heap.size q4 v → NumsIn v v.heap.size (.slice A3 m c3) (ks.take m)) := Lib.hid (fun v hv => NumsIn.more ((K.out.below (B4.out.trans (hv.mono B4.out.size))).take (by omega)) (Nat.le_trans B4.out.size hv.size))
          have HT1 : Hid (crashE ss (ws.take m) (ks.take m) = 0) := Lib.hid (crashE_zero (may_take HM.out.1 m) (by rw [List.length_take, List.length_take, HL.out]) (fun k hk => HM.out.2.2 k (List.mem_of_mem_take hk)))
          go_cut [10, 11] from 14 to 69 (fun s10 s11 wx => ∃ p, s10 = .pointer (some ⟨p, 0, none⟩) ∧ s11 = .int .i64 0 ∧ BoxD wx p q4.heap.size (crashS ss (ws.take m) (ks.take m)) [] ∧ Below q4.heap.size q4 wx)
          case first =>
            have Q0 := Lib.hid (Below.refl q4.heap.size q4).drew
            refine wp_region_held_drew (S := fun v => Below q4.heap.size q4 v) (by kernel_rfl) Q0.out (fun hHeld => ?_)
            refine wpAnyH_take (i := 0) (v := ?_) rfl (by kernel_rfl) (by kernel_rfl) (by kernel_rfl) (fun _ _ _ h => h) (Or.inl ⟨by rfl, ?_⟩) hHeld ?_
            rotate_left
            · intro w' hSw; go_simp; try with_reducible rfl
            simp only [List.getElem_toArray, List.getElem_cons_succ, List.getElem_cons_zero, Act.put, List.setIfInBounds_toArray, List.set_cons_zero, List.set_cons_succ]
            refine wpAnyH_take (i := 1) (v := ?_) rfl (by kernel_rfl) (by kernel_rfl) (by kernel_rfl) (fun _ _ _ h => h) (Or.inl ⟨by rfl, ?_⟩) hHeld ?_
            rotate_left
            · intro w' hSw; obtain ⟨c0, c1⟩ := cell2_of ((hSw.block _ (heap_lt C4.out)).trans C4.out); go_simp; try with_reducible rfl
            simp only [List.getElem_toArray, List.getElem_cons_succ, List.getElem_cons_zero, Act.put, List.setIfInBounds_toArray, List.set_cons_zero, List.set_cons_succ]
            refine wpAnyH_take (i := 2) (v := ?_) rfl (by kernel_rfl) (by kernel_rfl) (by kernel_rfl) (fun _ _ _ h => h) (Or.inl ⟨by rfl, ?_⟩) hHeld ?_
            rotate_left
            · intro w' hSw; go_simp; try with_reducible rfl
            simp only [List.getElem_toArray, List.getElem_cons_succ, List.getElem_cons_zero, Act.put, List.setIfInBounds_toArray, List.set_cons_zero, List.set_cons_succ]
            refine wpAnyH_take (i := 3) (v := ?_) rfl (by kernel_rfl) (by kernel_rfl) (by kernel_rfl) (fun _ _ _ h => h) (Or.inl ⟨by rfl, ?_⟩) hHeld ?_
            rotate_left
            · intro w' hSw; obtain ⟨c0, c1⟩ := cell2_of ((hSw.block _ (heap_lt C4.out)).trans C4.out); go_simp; try with_reducible rfl
            simp only [List.getElem_toArray, List.getElem_cons_succ, List.getElem_cons_zero, Act.put, List.setIfInBounds_toArray, List.set_cons_zero, List.set_cons_succ]
            refine wpAnyH_take (i := 4) (v := ?_) rfl (by kernel_rfl) (by kernel_rfl) (by kernel_rfl) (fun _ _ _ h => h) (Or.inl ⟨by rfl, ?_⟩) hHeld ?_
            rotate_left
            · intro w' hSw; go_simp; try with_reducible rfl
            simp only [List.getElem_toArray, List.getElem_cons_succ, List.getElem_cons_zero, Act.put, List.setIfInBounds_toArray, List.set_cons_zero, List.set_cons_succ]
            refine wpAnyH_take (i := 5) (v := ?_) rfl (by kernel_rfl) (by kernel_rfl) (by kernel_rfl) (fun _ _ _ h => h) (Or.inl ⟨by rfl, ?_⟩) hHeld ?_
            rotate_left
            · intro w' hSw; go_simp; try with_reducible rfl
            simp only [List.getElem_toArray, List.getElem_cons_succ, List.getElem_cons_zero, Act.put, List.setIfInBounds_toArray, List.set_cons_zero, List.set_cons_succ]
            refine wpAnyH_take (i := 6) (v := ?_) rfl (by kernel_rfl) (by kernel_rfl) (by kernel_rfl) (fun _ _ _ h => h) (Or.inl ⟨by rfl, ?_⟩) hHeld ?_
            rotate_left
            · intro w' hSw; go_simp; try with_reducible rfl
            simp only [List.getElem_toArray, List.getElem_cons_succ, List.getElem_cons_zero, Act.put, List.setIfInBounds_toArray, List.set_cons_zero, List.set_cons_succ]
            refine wpAnyH_take (i := 7) (v := ?_) rfl (by kernel_rfl) (by kernel_rfl) (by kernel_rfl) (fun _ _ _ h => h) (Or.inl ⟨by rfl, ?_⟩) hHeld ?_
            rotate_left
            · intro w' hSw; go_simp; try with_reducible rfl
            simp only [List.getElem_toArray, List.getElem_cons_succ, List.getElem_cons_zero, Act.put, List.setIfInBounds_toArray, List.set_cons_zero, List.set_cons_succ]
            refine wpAnyH_take (i := 8) (v := ?_) rfl (by kernel_rfl) (by kernel_rfl) (by kernel_rfl) (fun _ _ _ h => h) (Or.inl ⟨by rfl, ?_⟩) hHeld ?_
            rotate_left
            · intro w' hSw; go_simp; try with_reducible rfl
            simp only [List.getElem_toArray, List.getElem_cons_succ, List.getElem_cons_zero, Act.put, List.setIfInBounds_toArray, List.set_cons_zero, List.set_cons_succ]
            refine wpAnyH_take (i := 9) (v := ?_) rfl (by kernel_rfl) (by kernel_rfl) (by kernel_rfl) (fun _ _ _ h => h) (Or.inl ⟨by rfl, ?_⟩) hHeld ?_
            rotate_left
            · intro w' hSw; go_simp; try with_reducible rfl
            simp only [List.getElem_toArray, List.getElem_cons_succ, List.getElem_cons_zero, Act.put, List.setIfInBounds_toArray, List.set_cons_zero, List.set_cons_succ]
            refine wpAnyH_ready (rs := [10, 14]) (by kernel_rfl) (by simp) ?_
            refine AllReadyH.cons rfl (fun K hK => ?_) (AllReadyH.cons rfl (fun K hK => ?_) AllReadyH.nil)
            · go_simp
              refine (crash_any _ _ ss (ws.take m) (ks.take m) q4.drew (DT1.out _ Q0.out) (KT1.out _ Q0.out)).mono ?_
              rintro e wA ⟨dA, rfl, ⟨y1, y2, rfl, hsA, hwA⟩, bA⟩
              rw [HT1.out]
              obtain ⟨A6, c6, rfl⟩ := secs_slice hsA
              obtain ⟨A7, c7, rfl⟩ := wts_slice hwA
              have BA := Lib.hid (Q0.out.trans (bA.mono Q0.out.size))
              clear bA
              try go_wp2_with fail
              refine hK.out _ _ ?_ (fun hHeld => ?_)
              · exact BA.out
              clear hK K
              try simp only [List.getElem_toArray, List.getElem_cons_succ, List.getElem_cons_zero, Act.put, List.setIfInBounds_toArray, List.set_cons_zero, List.set_cons_succ]
              refine wpAnyH_take (i := 11) (v := ?_) rfl (by kernel_rfl) (by kernel_rfl) (by kernel_rfl) (fun _ _ _ h => h) (Or.inl ⟨by rfl, ?_⟩) hHeld ?_
              rotate_left
              · intro w' hSw; go_simp; try with_reducible rfl
              simp only [List.getElem_toArray, List.getElem_cons_succ, List.getElem_cons_zero, Act.put, List.setIfInBounds_toArray, List.set_cons_zero, List.set_cons_succ]
              refine wpAnyH_take (i := 12) (v := ?_) rfl (by kernel_rfl) (by kernel_rfl) (by kernel_rfl) (fun _ _ _ h => h) (Or.inl ⟨by rfl, ?_⟩) hHeld ?_
              rotate_left
              · intro w' hSw; go_simp; try with_reducible rfl
              simp only [List.getElem_toArray, List.getElem_cons_succ, List.getElem_cons_zero, Act.put, List.setIfInBounds_toArray, List.set_cons_zero, List.set_cons_succ]
              refine wpAnyH_take (i := 13) (v := ?_) rfl (by kernel_rfl) (by kernel_rfl) (by kernel_rfl) (fun _ _ _ h => h) (Or.inl ⟨by rfl, ?_⟩) hHeld ?_
              rotate_left
              · intro w' hSw; go_simp; try with_reducible rfl
              simp only [List.getElem_toArray, List.getElem_cons_succ, List.getElem_cons_zero, Act.put, List.setIfInBounds_toArray, List.set_cons_zero, List.set_cons_succ]
              refine wpAnyH_ready (rs := [14]) (by kernel_rfl) (by simp) ?_
              refine AllReadyH.cons rfl (fun K hK => ?_) AllReadyH.nil
              go_simp
              refine hK.out _ _ ?_ (fun hHeld => ?_)
              · exact BA.out.alloc BA.out.size _
              clear hK K
              try simp only [List.getElem_toArray, List.getElem_cons_succ, List.getElem_cons_zero, Act.put, List.setIfInBounds_toArray, List.set_cons_zero, List.set_cons_succ]
              refine wpAnyH_ready (rs := [15]) (by kernel_rfl) (by simp) ?_
              refine AllReadyH.cons rfl (fun K hK => ?_) AllReadyH.nil
              rw [if_pos (by rfl)]
              refine wp_store_2 25 _ _ rfl wA.heap.size rfl rfl (heap_alloc_self _ _) infoDisk2 rfl rfl ?_
              rw [World.setRow_alloc_new]
              refine hK.out _ _ ?_ (fun hHeld => ?_)
              · exact BA.out.alloc BA.out.size _
              clear hK K
              try simp only [List.getElem_toArray, List.getElem_cons_succ, List.getElem_cons_zero, Act.put, List.setIfInBounds_toArray, List.set_cons_zero, List.set_cons_succ]
              refine wpAnyH_take (i := 16) (v := ?_) rfl (by kernel_rfl) (by kernel_rfl) (by kernel_rfl) (fun _ _ _ h => h) (Or.inl ⟨by rfl, ?_⟩) hHeld ?_
              rotate_left
              · intro w' hSw; go_simp; try with_reducible rfl
              simp only [List.getElem_toArray, List.getElem_cons_succ, List.getElem_cons_zero, Act.put, List.setIfInBounds_toArray, List.set_cons_zero, List.set_cons_succ]
              refine wpAnyH_done (by kernel_rfl) ?_ _
              go_wp2_with fail
              go_meet
              exact ⟨wA.heap.size, rfl, rfl, ⟨_, _, heap_alloc_self _ _, hsA.below (below_new _ _), hwA.below (below_new _ _)⟩, BA.out.alloc BA.out.size _⟩
            · go_simp
              have hz0 : Below q4.heap.size q4 (q4.alloc (.cells #[.slice none 0 0, .slice none 0 0] 25)).drew := (below_new _ _).drew
              have hz1 : (q4.alloc (.cells #[.slice none 0 0, .slice none 0 0] 25)).drew.heap[q4.heap.size]? = some (.cells #[.slice none 0 0, .slice none 0 0] 25 (0, 0)) := heap_alloc_self _ _
              refine hK.out _ _ ?_ (fun hHeld => ?_)
              · exact hz0
              clear hK K
              try simp only [List.getElem_toArray, List.getElem_cons_succ, List.getElem_cons_zero, Act.put, List.setIfInBounds_toArray, List.set_cons_zero, List.set_cons_succ]
              generalize (q4.alloc (.cells #[.slice none 0 0, .slice none 0 0] 25)).drew = wB at hz0 hz1 hHeld ⊢
              have HZ0 := Lib.hid hz0
              have HZ1 := Lib.hid hz1
              clear hz0 hz1
              refine wpAnyH_ready (rs := [10]) (by kernel_rfl) (by simp) ?_
              refine AllReadyH.cons rfl (fun K hK => ?_) AllReadyH.nil
              go_simp
              refine (crash_any _ _ ss (ws.take m) (ks.take m) wB (DT1.out _ HZ0.out) (KT1.out _ HZ0.out)).mono ?_
              rintro e wA ⟨dA, rfl, ⟨y1, y2, rfl, hsA, hwA⟩, bA⟩
              rw [HT1.out]
              obtain ⟨A6, c6, rfl⟩ := secs_slice hsA
              obtain ⟨A7, c7, rfl⟩ := wts_slice hwA
              have BA := Lib.hid (HZ0.out.trans (bA.mono HZ0.out.size))
              have HZ2 := Lib.hid ((bA.block _ (heap_lt HZ1.out)).trans HZ1.out)
              clear bA
              try go_wp2_with fail
              refine hK.out _ _ ?_ (fun hHeld => ?_)
              · exact BA.out
              clear hK K
              try simp only [List.getElem_toArray, List.getElem_cons_succ, List.getElem_cons_zero, Act.put, List.setIfInBounds_toArray, List.set_cons_zero, List.set_cons_succ]
              refine wpAnyH_take (i := 11) (v := ?_) rfl (by kernel_rfl) (by kernel_rfl) (by kernel_rfl) (fun _ _ _ h => h) (Or.inl ⟨by rfl, ?_⟩) hHeld ?_
              rotate_left
              · intro w' hSw; go_simp; try with_reducible rfl
              simp only [List.getElem_toArray, List.getElem_cons_succ, List.getElem_cons_zero, Act.put, List.setIfInBounds_toArray, List.set_cons_zero, List.set_cons_succ]
              refine wpAnyH_take (i := 12) (v := ?_) rfl (by kernel_rfl) (by kernel_rfl) (by kernel_rfl) (fun _ _ _ h => h) (Or.inl ⟨by rfl, ?_⟩) hHeld ?_
              rotate_left
              · intro w' hSw; go_simp; try with_reducible rfl
              simp only [List.getElem_toArray, List.getElem_cons_succ, List.getElem_cons_zero, Act.put, List.setIfInBounds_toArray, List.set_cons_zero, List.set_cons_succ]
              refine wpAnyH_take (i := 13) (v := ?_) rfl (by kernel_rfl) (by kernel_rfl) (by kernel_rfl) (fun _ _ _ h => h) (Or.inl ⟨by rfl, ?_⟩) hHeld ?_
              rotate_left
              · intro w' hSw; go_simp; try with_reducible rfl
              simp only [List.getElem_toArray, List.getElem_cons_succ, List.getElem_cons_zero, Act.put, List.setIfInBounds_toArray, List.set_cons_zero, List.set_cons_succ]
              refine wpAnyH_ready (rs := [15]) (by kernel_rfl) (by simp) ?_
              refine AllReadyH.cons rfl (fun K hK => ?_) AllReadyH.nil
              rw [if_pos (by rfl)]
              refine wp_store_2 25 _ _ rfl q4.heap.size rfl rfl HZ2.out infoDisk2 rfl rfl ?_
              refine hK.out _ _ ?_ (fun hHeld => ?_)
              · exact below_setRow BA.out (Nat.le_refl _) _
              clear hK K
              try simp only [List.getElem_toArray, List.getElem_cons_succ, List.getElem_cons_zero, Act.put, List.setIfInBounds_toArray, List.set_cons_zero, List.set_cons_succ]
              refine wpAnyH_take (i := 16) (v := ?_) rfl (by kernel_rfl) (by kernel_rfl) (by kernel_rfl) (fun _ _ _ h => h) (Or.inl ⟨by rfl, ?_⟩) hHeld ?_
              rotate_left
              · intro w' hSw; go_simp; try with_reducible rfl
              simp only [List.getElem_toArray, List.getElem_cons_succ, List.getElem_cons_zero, Act.put, List.setIfInBounds_toArray, List.set_cons_zero, List.set_cons_succ]
              refine wpAnyH_done (by kernel_rfl) ?_ _
              go_wp2_with fail
              go_meet
              exact ⟨q4.heap.size, rfl, rfl, ⟨_, _, setRow_heap _ _ _ _ _ _ HZ2.out, (secs_setRow hsA (heap_lt HZ1.out) _).mono HZ0.out.size, (wts_setRow hwA (heap_lt HZ1.out) _).mono HZ0.out.size⟩, below_setRow BA.out (Nat.le_refl _) _⟩
          case rest =>
            obtain ⟨q5, hq5⟩ : ∃ q5 : World, q5 = wc := ⟨_, rfl⟩
            subst hq5
            obtain ⟨p, rfl, rfl, hbd, hbl⟩ := hcut
            obtain ⟨y1, y2, hpc, hys, hyw⟩ := hbd
            obtain ⟨A8, c8, rfl⟩ := secs_slice hys
            have HS1 : Hid (crashS ss (ws.take m) (ks.take m) = comes ss (ws.take m) ((ks.take m).map Int.toNat)) := Lib.hid (by rw [crashS, if_pos HT1.out])
            have HS0 : Hid (crashS ss ws ks = comes ss ws (ks.map Int.toNat)) := Lib.hid (by rw [crashS, if_pos (crashE_zero HM.out.1 HM.out.2.1 HM.out.2.2)])
            have HM1 : Hid (May (crashS ss (ws.take m) (ks.take m)) []) := Lib.hid (by rw [HS1.out]; exact may_comes (may_take HM.out.1 m) _)
            have HT2 : Hid (crashE (crashS ss (ws.take m) (ks.take m)) (ws.drop m) (ks.drop m) = 0) := Lib.hid (crashE_zero (may_drop HM.out.1 HM1.out m) (by rw [List.length_drop, List.length_drop, HL.out]) (fun k hk => HM.out.2.2 k (List.mem_of_mem_drop hk)))
            have HS2 : Hid (crashS (crashS ss (ws.take m) (ks.take m)) (ws.drop m) (ks.drop m) = crashS ss ws ks) := Lib.hid (by
              rw [crashS, if_pos HT2.out, HS1.out, HS0.out, List.map_take, List.map_drop]
              exact comes_split ss ws _ m (by rw [List.length_map]; exact HL.out))
            have B5 := Lib.hid (B4.out.trans (hbl.mono B4.out.size))
            have C5 := Lib.hid ((hbl.block _ (heap_lt C4.out)).trans C4.out)
            have O5 := Lib.hid (D4.out.below hbl)
            have HCC : Hid (ws.length ≤ c2 ∧ ks.length ≤ c3) := Lib.hid (by
              obtain ⟨_, _, e, h5, _⟩ := H2.out
              obtain ⟨_, _, e', h6, _⟩ := K.out
              cases e; cases e'; exact ⟨h5, h6⟩)
            obtain ⟨n8, hn8⟩ : ∃ n8, n8 = (crashS ss (ws.take m) (ks.take m)).length := ⟨_, rfl⟩
            obtain ⟨A2', hA2'⟩ : ∃ X, X = (if c2 = m then A2 else A2.map (·.add (m * 2))) := ⟨_, rfl⟩
            obtain ⟨A3', hA3'⟩ : ∃ X, X = (if c3 = m then A3 else A3.map (·.add (m * 1))) := ⟨_, rfl⟩
            have HA2 := Lib.hid hA2'
            have HA3 := Lib.hid hA3'
            have hdt : ∀ v, Below q5.heap.size q5 v → DiskIn v v.heap.size (.agg #[.slice A8 (crashS ss (ws.take m) (ks.take m)).length c8, .slice A2' (ws.length - m) (c2 - m)]) (crashS ss (ws.take m) (ks.take m)) (ws.drop m) := fun v hv => ⟨_, _, rfl, (hys.below hv).in_, (by rw [hA2']; exact (H2.out.below (B5.out.trans (hv.mono B5.out.size))).drop hml : WtsIn v w.heap.size (.slice A2' (ws.length - m) (c2 - m)) (ws.drop m)).more (Nat.le_trans B5.out.size hv.size)⟩
            rw [← hn8] at hdt hpc
            have DT2 := Lib.hid hdt
            have KT2 : Hid (∀ v, Below q5.heap.size q5 v → NumsIn v v.heap.size (.slice A3' (ks.length - m) (c3 - m)) (ks.drop m)) := Lib.hid (fun v hv => NumsIn.more (by rw [hA3']; exact (K.out.below (B5.out.trans (hv.mono B5.out.size))).drop (by omega)) (Nat.le_trans B5.out.size hv.size))
            have P5 := Lib.hid hpc
            obtain ⟨iw, hiw, -, hiw1, -⟩ := info_parts infoWrite
            have IW0 := Lib.hid hiw
            have IW1 := Lib.hid hiw1
            obtain ⟨ii, hii, -, hii1, -⟩ := info_parts infoInt
            have IN0 := Lib.hid hii
            have IN1 := Lib.hid hii1
            clear hA2' hA3' hys hyw hdt hn8 hbl hpc hiw hiw1 hii hii1 HT1 DT1 KT1 B4 C4 D4 hx4 k0 k1 s0 s1
            try go_wp2_with fail
            go_cut [12, 13] from 14 to 83 (fun s12 s13 wx => ∃ p2, s12 = .pointer (some ⟨p2, 0, none⟩) ∧ s13 = .int .i64 0 ∧ BoxD wx p2 q5.heap.size (crashS (crashS ss (ws.take m) (ks.take m)) (ws.drop m) (ks.drop m)) [] ∧ Below q5.heap.size q5 wx)
            case first =>
              have Q0 := Lib.hid (Below.refl q5.heap.size q5).drew
              refine wp_region_held_drew (S := fun v => Below q5.heap.size q5 v) (by kernel_rfl) Q0.out (fun hHeld => ?_)
              refine wpAnyH_take (i := 0) (v := ?_) rfl (by kernel_rfl) (by kernel_rfl) (by kernel_rfl) (fun _ _ _ h => h) (Or.inl ⟨by rfl, ?_⟩) hHeld ?_
              rotate_left
              · intro w' hSw; go_simp; try with_reducible rfl
              simp only [List.getElem_toArray, List.getElem_cons_succ, List.getElem_cons_zero, Act.put, List.setIfInBounds_toArray, List.set_cons_zero, List.set_cons_succ]
              refine wpAnyH_take (i := 1) (v := ?_) rfl (by kernel_rfl) (by kernel_rfl) (by kernel_rfl) (fun _ _ _ h => h) (Or.inl ⟨by rfl, ?_⟩) hHeld ?_
              rotate_left
              · intro w' hSw; obtain ⟨c0, c1⟩ := cell2_of ((hSw.block _ (heap_lt P5.out)).trans P5.out); go_simp; try with_reducible rfl
              simp only [List.getElem_toArray, List.getElem_cons_succ, List.getElem_cons_zero, Act.put, List.setIfInBounds_toArray, List.set_cons_zero, List.set_cons_succ]
              refine wpAnyH_take (i := 2) (v := ?_) rfl (by kernel_rfl) (by kernel_rfl) (by kernel_rfl) (fun _ _ _ h => h) (Or.inl ⟨by rfl, ?_⟩) hHeld ?_
              rotate_left
              · intro w' hSw; go_simp; try with_reducible rfl
              simp only [List.getElem_toArray, List.getElem_cons_succ, List.getElem_cons_zero, Act.put, List.setIfInBounds_toArray, List.set_cons_zero, List.set_cons_succ]
              refine wpAnyH_take (i := 3) (v := ?_) rfl (by kernel_rfl) (by kernel_rfl) (by kernel_rfl) (fun _ _ _ h => h) (Or.inl ⟨by rfl, ?_⟩) hHeld ?_
              rotate_left
              · intro w' hSw; obtain ⟨c0, c1⟩ := cell2_of ((hSw.block _ (heap_lt C5.out)).trans C5.out); go_simp; try with_reducible rfl
              simp only [List.getElem_toArray, List.getElem_cons_succ, List.getElem_cons_zero, Act.put, List.setIfInBounds_toArray, List.set_cons_zero, List.set_cons_succ]
              refine wpAnyH_take (i := 4) (v := ?_) rfl (by kernel_rfl) (by kernel_rfl) (by kernel_rfl) (fun _ _ _ h => h) (Or.inl ⟨by rfl, ?_⟩) hHeld ?_
              rotate_left
              · intro w' hSw; go_simp; try with_reducible rfl
              simp only [List.getElem_toArray, List.getElem_cons_succ, List.getElem_cons_zero, Act.put, List.setIfInBounds_toArray, List.set_cons_zero, List.set_cons_succ]
              refine wpAnyH_take (i := 5) rfl (by kernel_rfl) (by kernel_rfl) (by kernel_rfl) (fun _ _ _ h => h) (yieldsIf_slice_from (by rfl) 23 _ _ rfl rfl rfl Try.underlying23 IW0.out IW1.out hml (by have := HCC.out; omega) HA2.out) hHeld ?_
              simp only [List.getElem_toArray, List.getElem_cons_succ, List.getElem_cons_zero, Act.put, List.setIfInBounds_toArray, List.set_cons_zero, List.set_cons_succ]
              refine wpAnyH_take (i := 6) (v := ?_) rfl (by kernel_rfl) (by kernel_rfl) (by kernel_rfl) (fun _ _ _ h => h) (Or.inl ⟨by rfl, ?_⟩) hHeld ?_
              rotate_left
              · intro w' hSw; go_simp; try with_reducible rfl
              simp only [List.getElem_toArray, List.getElem_cons_succ, List.getElem_cons_zero, Act.put, List.setIfInBounds_toArray, List.set_cons_zero, List.set_cons_succ]
              refine wpAnyH_take (i := 7) (v := ?_) rfl (by kernel_rfl) (by kernel_rfl) (by kernel_rfl) (fun _ _ _ h => h) (Or.inl ⟨by rfl, ?_⟩) hHeld ?_
              rotate_left
              · intro w' hSw; go_simp; try with_reducible rfl
              simp only [List.getElem_toArray, List.getElem_cons_succ, List.getElem_cons_zero, Act.put, List.setIfInBounds_toArray, List.set_cons_zero, List.set_cons_succ]
              refine wpAnyH_take (i := 8) (v := ?_) rfl (by kernel_rfl) (by kernel_rfl) (by kernel_rfl) (fun _ _ _ h => h) (Or.inl ⟨by rfl, ?_⟩) hHeld ?_
              rotate_left
              · intro w' hSw; go_simp; try with_reducible rfl
              simp only [List.getElem_toArray, List.getElem_cons_succ, List.getElem_cons_zero, Act.put, List.setIfInBounds_toArray, List.set_cons_zero, List.set_cons_succ]
              refine wpAnyH_take (i := 9) rfl (by kernel_rfl) (by kernel_rfl) (by kernel_rfl) (fun _ _ _ h => h) (yieldsIf_slice_from (by rfl) 36 _ _ rfl rfl rfl Try.underlying36 IN0.out IN1.out (by omega) (by have := HCC.out; omega) HA3.out) hHeld ?_
              simp only [List.getElem_toArray, List.getElem_cons_succ, List.getElem_cons_zero, Act.put, List.setIfInBounds_toArray, List.set_cons_zero, List.set_cons_succ]
              refine wpAnyH_ready (rs := [10, 14]) (by kernel_rfl) (by simp) ?_
              refine AllReadyH.cons rfl (fun K hK => ?_) (AllReadyH.cons rfl (fun K hK => ?_) AllReadyH.nil)
              · go_simp
                refine (crash_any _ _ (crashS ss (ws.take m) (ks.take m)) (ws.drop m) (ks.drop m) q5.drew (DT2.out _ Q0.out) (KT2.out _ Q0.out)).mono ?_
                rintro e wA ⟨dA, rfl, ⟨y1, y2, rfl, hsA, hwA⟩, bA⟩
                rw [HT2.out]
                obtain ⟨A6, c6, rfl⟩ := secs_slice hsA
                obtain ⟨A7, c7, rfl⟩ := wts_slice hwA
                have BA := Lib.hid (Q0.out.trans (bA.mono Q0.out.size))
                clear bA
                try go_wp2_with fail
                refine hK.out _ _ ?_ (fun hHeld => ?_)
                · exact BA.out
                clear hK K
                try simp only [List.getElem_toArray, List.getElem_cons_succ, List.getElem_cons_zero, Act.put, List.setIfInBounds_toArray, List.set_cons_zero, List.set_cons_succ]
                refine wpAnyH_take (i := 11) (v := ?_) rfl (by kernel_rfl) (by kernel_rfl) (by kernel_rfl) (fun _ _ _ h => h) (Or.inl ⟨by rfl, ?_⟩) hHeld ?_
                rotate_left
                · intro w' hSw; go_simp; try with_reducible rfl
                simp only [List.getElem_toArray, List.getElem_cons_succ, List.getElem_cons_zero, Act.put, List.setIfInBounds_toArray, List.set_cons_zero, List.set_cons_succ]
                refine wpAnyH_take (i := 12) (v := ?_) rfl (by kernel_rfl) (by kernel_rfl) (by kernel_rfl) (fun _ _ _ h => h) (Or.inl ⟨by rfl, ?_⟩) hHeld ?_
                rotate_left
                · intro w' hSw; go_simp; try with_reducible rfl
                simp only [List.getElem_toArray, List.getElem_cons_succ, List.getElem_cons_zero, Act.put, List.setIfInBounds_toArray, List.set_cons_zero, List.set_cons_succ]
                refine wpAnyH_take (i := 13) (v := ?_) rfl (by kernel_rfl) (by kernel_rfl) (by kernel_rfl) (fun _ _ _ h => h) (Or.inl ⟨by rfl, ?_⟩) hHeld ?_
                rotate_left
                · intro w' hSw; go_simp; try with_reducible rfl
                simp only [List.getElem_toArray, List.getElem_cons_succ, List.getElem_cons_zero, Act.put, List.setIfInBounds_toArray, List.set_cons_zero, List.set_cons_succ]
                refine wpAnyH_ready (rs := [14]) (by kernel_rfl) (by simp) ?_
                refine AllReadyH.cons rfl (fun K hK => ?_) AllReadyH.nil
                go_simp
                refine hK.out _ _ ?_ (fun hHeld => ?_)
                · exact BA.out.alloc BA.out.size _
                clear hK K
                try simp only [List.getElem_toArray, List.getElem_cons_succ, List.getElem_cons_zero, Act.put, List.setIfInBounds_toArray, List.set_cons_zero, List.set_cons_succ]
                refine wpAnyH_ready (rs := [15]) (by kernel_rfl) (by simp) ?_
                refine AllReadyH.cons rfl (fun K hK => ?_) AllReadyH.nil
                rw [if_pos (by rfl)]
                refine wp_store_2 25 _ _ rfl wA.heap.size rfl rfl (heap_alloc_self _ _) infoDisk2 rfl rfl ?_
                rw [World.setRow_alloc_new]
                refine hK.out _ _ ?_ (fun hHeld => ?_)
                · exact BA.out.alloc BA.out.size _
                clear hK K
                try simp only [List.getElem_toArray, List.getElem_cons_succ, List.getElem_cons_zero, Act.put, List.setIfInBounds_toArray, List.set_cons_zero, List.set_cons_succ]
                refine wpAnyH_take (i := 16) (v := ?_) rfl (by kernel_rfl) (by kernel_rfl) (by kernel_rfl) (fun _ _ _ h => h) (Or.inl ⟨by rfl, ?_⟩) hHeld ?_
                rotate_left
                · intro w' hSw; go_simp; try with_reducible rfl
                simp only [List.getElem_toArray, List.getElem_cons_succ, List.getElem_cons_zero, Act.put, List.setIfInBounds_toArray, List.set_cons_zero, List.set_cons_succ]
                refine wpAnyH_done (by kernel_rfl) ?_ _
                go_wp2_with fail
                go_meet
                exact ⟨wA.heap.size, rfl, rfl, ⟨_, _, heap_alloc_self _ _, hsA.below (below_new _ _), hwA.below (below_new _ _)⟩, BA.out.alloc BA.out.size _⟩
              · go_simp
                have hz0 : Below q5.heap.size q5 (q5.alloc (.cells #[.slice none 0 0, .slice none 0 0] 25)).drew := (below_new _ _).drew
                have hz1 : (q5.alloc (.cells #[.slice none 0 0, .slice none 0 0] 25)).drew.heap[q5.heap.size]? = some (.cells #[.slice none 0 0, .slice none 0 0] 25 (0, 0)) := heap_alloc_self _ _
                refine hK.out _ _ ?_ (fun hHeld => ?_)
                · exact hz0
                clear hK K
                try simp only [List.getElem_toArray, List.getElem_cons_succ, List.getElem_cons_zero, Act.put, List.setIfInBounds_toArray, List.set_cons_zero, List.set_cons_succ]
                generalize (q5.alloc (.cells #[.slice none 0 0, .slice none 0 0] 25)).drew = wB at hz0 hz1 hHeld ⊢
                have HZ0 := Lib.hid hz0
                have HZ1 := Lib.hid hz1
                clear hz0 hz1
                refine wpAnyH_ready (rs := [10]) (by kernel_rfl) (by simp) ?_
                refine AllReadyH.cons rfl (fun K hK => ?_) AllReadyH.nil
                go_simp
                refine (crash_any _ _ (crashS ss (ws.take m) (ks.take m)) (ws.drop m) (ks.drop m) wB (DT2.out _ HZ0.out) (KT2.out _ HZ0.out)).mono ?_
                rintro e wA ⟨dA, rfl, ⟨y1, y2, rfl, hsA, hwA⟩, bA⟩
                rw [HT2.out]
                obtain ⟨A6, c6, rfl⟩ := secs_slice hsA
                obtain ⟨A7, c7, rfl⟩ := wts_slice hwA
                have BA := Lib.hid (HZ0.out.trans (bA.mono HZ0.out.size))
                have HZ2 := Lib.hid ((bA.block _ (heap_lt HZ1.out)).trans HZ1.out)
                clear bA
                try go_wp2_with fail
                refine hK.out _ _ ?_ (fun hHeld => ?_)
                · exact BA.out
                clear hK K
                try simp only [List.getElem_toArray, List.getElem_cons_succ, List.getElem_cons_zero, Act.put, List.setIfInBounds_toArray, List.set_cons_zero, List.set_cons_succ]
                refine wpAnyH_take (i := 11) (v := ?_) rfl (by kernel_rfl) (by kernel_rfl) (by kernel_rfl) (fun _ _ _ h => h) (Or.inl ⟨by rfl, ?_⟩) hHeld ?_
                rotate_left
                · intro w' hSw; go_simp; try with_reducible rfl
                simp only [List.getElem_toArray, List.getElem_cons_succ, List.getElem_cons_zero, Act.put, List.setIfInBounds_toArray, List.set_cons_zero, List.set_cons_succ]
                refine wpAnyH_take (i := 12) (v := ?_) rfl (by kernel_rfl) (by kernel_rfl) (by kernel_rfl) (fun _ _ _ h => h) (Or.inl ⟨by rfl, ?_⟩) hHeld ?_
                rotate_left
                · intro w' hSw; go_simp; try with_reducible rfl
                simp only [List.getElem_toArray, List.getElem_cons_succ, List.getElem_cons_zero, Act.put, List.setIfInBounds_toArray, List.set_cons_zero, List.set_cons_succ]
                refine wpAnyH_take (i := 13) (v := ?_) rfl (by kernel_rfl) (by kernel_rfl) (by kernel_rfl) (fun _ _ _ h => h) (Or.inl ⟨by rfl, ?_⟩) hHeld ?_
                rotate_left
                · intro w' hSw; go_simp; try with_reducible rfl
                simp only [List.getElem_toArray, List.getElem_cons_succ, List.getElem_cons_zero, Act.put, List.setIfInBounds_toArray, List.set_cons_zero, List.set_cons_succ]
                refine wpAnyH_ready (rs := [15]) (by kernel_rfl) (by simp) ?_
                refine AllReadyH.cons rfl (fun K hK => ?_) AllReadyH.nil
                rw [if_pos (by rfl)]
                refine wp_store_2 25 _ _ rfl q5.heap.size rfl rfl HZ2.out infoDisk2 rfl rfl ?_
                refine hK.out _ _ ?_ (fun hHeld => ?_)
                · exact below_setRow BA.out (Nat.le_refl _) _
                clear hK K
                try simp only [List.getElem_toArray, List.getElem_cons_succ, List.getElem_cons_zero, Act.put, List.setIfInBounds_toArray, List.set_cons_zero, List.set_cons_succ]
                refine wpAnyH_take (i := 16) (v := ?_) rfl (by kernel_rfl) (by kernel_rfl) (by kernel_rfl) (fun _ _ _ h => h) (Or.inl ⟨by rfl, ?_⟩) hHeld ?_
                rotate_left
                · intro w' hSw; go_simp; try with_reducible rfl
                simp only [List.getElem_toArray, List.getElem_cons_succ, List.getElem_cons_zero, Act.put, List.setIfInBounds_toArray, List.set_cons_zero, List.set_cons_succ]
                refine wpAnyH_done (by kernel_rfl) ?_ _
                go_wp2_with fail
                go_meet
                exact ⟨q5.heap.size, rfl, rfl, ⟨_, _, setRow_heap _ _ _ _ _ _ HZ2.out, (secs_setRow hsA (heap_lt HZ1.out) _).mono HZ0.out.size, (wts_setRow hwA (heap_lt HZ1.out) _).mono HZ0.out.size⟩, below_setRow BA.out (Nat.le_refl _) _⟩
            case rest =>
              obtain ⟨p2, rfl, rfl, hbd2, hbl2⟩ := hcut
              rw [HS2.out] at hbd2
              have B6 := Lib.hid (B5.out.trans (hbl2.mono B5.out.size))
              have O6 := Lib.hid (O5.out.below hbl2)
              clear hbl2 DT2 KT2 P5 O5 C5 B5
              obtain ⟨z1, z2, hz, hzs, hzw⟩ := hbd2
              obtain ⟨x1, x2, hx, hxs, hxw⟩ := O6.out
              obtain ⟨A9, c9, rfl⟩ := secs_slice hzs
              obtain ⟨A10, c10, rfl⟩ := wts_slice hzw
              obtain ⟨A11, c11, rfl⟩ := secs_slice hxs
              obtain ⟨A12, c12, rfl⟩ := wts_slice hxw
              have hsame := same_disk _ _ _ _ _ _ wc (Nat.le_refl _) (Nat.le_refl _) (DiskAt.in_ ⟨_, _, rfl, hxs, hxw⟩) (DiskAt.in_ ⟨_, _, rfl, hzs, hzw⟩)
              rw [decide_eq_true (p := crashS ss ws ks = crashS ss ws ks ∧ ([] : List Wr) = []) ⟨rfl, rfl⟩] at hsame
              have HSAME := Lib.hid hsame
              have DX := Lib.hid (show DiskAt wc _ _ (crashS ss ws ks) [] from ⟨_, _, rfl, hxs, hxw⟩)
              have MX : Hid (mayB (crashS ss ws ks) [] = true) := Lib.hid (mayB_iff.2 (by rw [HS0.out]; exact may_comes HM.out.1 _))
              have X6 := Lib.hid hx
              obtain ⟨x0, x1⟩ := cell2_of hx
              obtain ⟨z0, z1⟩ := cell2_of hz
              obtain ⟨nx, hnx⟩ : ∃ nx, nx = (crashS ss ws ks).length := ⟨_, rfl⟩
              rw [← hnx] at x0 z0 HSAME DX X6
              clear hsame hx hz hxs hxw hzs hzw O6 hnx
              go_wp2_with fail
              refine HSAME.out.mono ?_
              rintro e w7 ⟨rfl, b7⟩
              have B7 := Lib.hid (B6.out.trans (b7.mono B6.out.size))
              obtain ⟨x0', x1'⟩ := cell2_of ((b7.block _ (heap_lt X6.out)).trans X6.out)
              have D7 := Lib.hid ((DX.out.below b7).in_)
              clear x0 x1 z0 z1 b7
              go_wp2_with fail
              refine (check_any _ _ _ w7 D7.out).mono ?_
              rintro e w8 ⟨rfl, b8⟩
              rw [MX.out]
              have B8 := Lib.hid (B7.out.trans (b8.mono B7.out.size))
              clear x0' x1' b8
              go_wp2_with fail
              go_ret
              exact ⟨rfl, B8.out⟩
        · by_cases hn : n < 0
          · clear hr he
            go_wp2_with fail
            go_ret
            exact ⟨rfl, B4.out⟩
          · have hn2 : (ks.length : Int) < n := by omega
            clear hr he
            go_wp2_with fail
            go_ret
            exact ⟨rfl, B4.out⟩
      · obtain ⟨r, hr⟩ : ∃ r, r = crashE ss ws ks := ⟨_, rfl⟩
        have hsz : (crashS ss ws ks).length = 0 := by rw [crashS, if_neg he]; rfl
        have hb4 := B4.out
        rw [hsz] at *
        have HB4 := Lib.hid hb4
        clear hb4
        rw [← hr] at he ⊢
        have hrb : (r == 0) = false := by rw [beq_eq_false_iff_ne]; exact he
        clear hr hsz
        go_wp2_with fail
        go_ret
        exact ⟨rfl, HB4.out⟩
end Go.Proofs.Ytdpjdobmnkadjaa
