/-
  The statement HmacNested's text returns true: a tag hangs on the key's block and the inner hash alone.
  Conditions: the table of constants reads as it was laid.
-/
import Derived.Test.YtdaaemnfphagbaaDoorHmacBlock
set_option linter.unusedVariables false
set_option linter.unusedSimpArgs false
namespace Go.Proofs.YtdaaemnfphagbaaDoor
open Go.RowKit

/-- append(own, text...), as one operation. -/
theorem wp_append_txt {P : Program} {w : World} {o : Oper} {a : Act} {K : Act → World → Prop} {Q : Exit → Act → World → Prop} (s x : Operand) (t : TypeId)
    (ho : o.op = .call { callee := .builtin .append, args := #[s, x], argTypes := #[t, t] })
    {base e : Nat} {i : TypeInfo} (ht : P.underlying t = some (.slice e)) (hi : P.info? e = some i) (hz : i.zero = some (.int .u8 0)) (hsize : i.size = 1) (hby : i.bytes = 1)
    {v : Value} {n : Nat} {ys : List Value} (hs : a.eval s = v) (hown : w.ownsRow base e 1 v n ys) {B : Nat} {u : Value} {xs : List UInt8} (hu : a.eval x = u) (hx : Txt w B u xs) (h63 : n + xs.length ≤ 140737488355328) (hbase : base ≤ w.heap.size)
    (h : ∀ v' w', w'.ownsRow base e 1 v' (n + xs.length) (ys ++ xs.map u8) → w.grownBy w' v.ownBlock → K (a.put o.dst v') w') : o.wp P a w K Q := by
  obtain ⟨v', w', hrun, h2, h3⟩ := run_append_txt (ty := o.type) ht hi hz hsize hby hown hx h63 hbase
  unfold Oper.wp execOp
  simp only [ho, resolve, invoke, builtin, Sem.run_bind, Sem.run_pure, Result.andThen_ok, List.map_toArray, List.map_cons, List.map_nil, hs, hu, hrun]
  exact h v' w' h2 h3

theorem nested_off (v0 v1 v2 : Value) (key a b : List UInt8) (h : 64 < key.length ∨ 3000 < a.length ∨ 3000 < b.length) (w : World) (hT : Tab w) (h0 : Txt w w.heap.size v0 key) (h1 : Txt w w.heap.size v1 a) (h2 : Txt w w.heap.size v2 b) :
    Calls Tryd.prog 5 #[v0, v1, v2] w fun e w' => e = .returned (.bool true) ∧ Below w.heap.size w w' := by
  have HT := Lib.hid hT
  clear hT
  obtain ⟨A0, c0, rfl, -, -, -, -⟩ := h0
  obtain ⟨A1, c1, rfl, -, -, -, -⟩ := h1
  obtain ⟨A2, c2, rfl, -, -, -, -⟩ := h2
  by_cases g1 : (64 : Int) < key.length
  · go_enter Tryd.func5, Tryd.ntmps5
    go_wp2_with fail
    refine (alive_true _ HT.out).mono ?_
    rintro e w1 ⟨rfl, b⟩
    have B1 := Lib.hid b
    clear b
    go_wp2
    go_ret
    exact ⟨rfl, B1.out⟩
  by_cases g2 : (3000 : Int) < a.length
  · go_enter Tryd.func5, Tryd.ntmps5
    go_wp2_with fail
    refine (alive_true _ HT.out).mono ?_
    rintro e w1 ⟨rfl, b⟩
    have B1 := Lib.hid b
    clear b
    go_wp2
    go_ret
    exact ⟨rfl, B1.out⟩
  · have g3 : (3000 : Int) < b.length := by omega
    go_enter Tryd.func5, Tryd.ntmps5
    go_wp2_with fail
    refine (alive_true _ HT.out).mono ?_
    rintro e w1 ⟨rfl, b⟩
    have B1 := Lib.hid b
    clear b
    go_wp2
    go_ret
    exact ⟨rfl, B1.out⟩

/-- What holds all through the last line. -/
def NAt (b8 b10 b12 b13 : Nat) (X Y I J : List UInt8) (v : World) : Prop :=
  v.heap[b8]? = some (.cells (rowB X) 22 (0, 0)) ∧ v.heap[b10]? = some (.cells (rowB Y) 22 (0, 0)) ∧
  v.heap[b12]? = some (.cells (rowB I) 22 (0, 0)) ∧ v.heap[b13]? = some (.cells (rowB J) 22 (0, 0))
theorem NAt.below {b8 b10 b12 b13 : Nat} {X Y I J : List UInt8} {v v' : World} (h : NAt b8 b10 b12 b13 X Y I J v) (b : Below v.heap.size v v') : NAt b8 b10 b12 b13 X Y I J v' :=
  ⟨(b.block _ (heap_lt h.1)).trans h.1, (b.block _ (heap_lt h.2.1)).trans h.2.1, (b.block _ (heap_lt h.2.2.1)).trans h.2.2.1, (b.block _ (heap_lt h.2.2.2)).trans h.2.2.2⟩
theorem NAt.drew {b8 b10 b12 b13 : Nat} {X Y I J : List UInt8} {v : World} (h : NAt b8 b10 b12 b13 X Y I J v) : NAt b8 b10 b12 b13 X Y I J v.drew := h

set_option maxRecDepth 100000 in
set_option maxHeartbeats 4000000 in
theorem nested_all (v0 v1 v2 : Value) (key a b : List UInt8) (hk : key.length ≤ 64) (ha : a.length ≤ 3000) (hb : b.length ≤ 3000) (w : World) (hT : Tab w) (h0 : Txt w w.heap.size v0 key) (h1 : Txt w w.heap.size v1 a) (h2 : Txt w w.heap.size v2 b) :
    Calls Tryd.prog 5 #[v0, v1, v2] w fun e w' => e = .returned (.bool true) ∧ Below w.heap.size w w' := by
  have HT := Lib.hid hT
  have HX0 := Lib.hid h0
  have HX1 := Lib.hid h1
  have HX2 := Lib.hid h2
  have LE : Hid (key.length ≤ 64 ∧ a.length ≤ 3000 ∧ b.length ≤ 3000) := Lib.hid ⟨hk, ha, hb⟩
  have g1 : ¬ (64 : Int) < key.length := by omega
  have g2 : ¬ (3000 : Int) < a.length := by omega
  have g3 : ¬ (3000 : Int) < b.length := by omega
  obtain ⟨A0, c0, rfl, -, -, -, -⟩ := h0
  obtain ⟨A1, c1, rfl, -, -, -, -⟩ := h1
  obtain ⟨A2, c2, rfl, -, -, -, -⟩ := h2
  obtain ⟨i0, hi, hz0, hz1, hz2⟩ := info_parts infoByte
  have I0 := Lib.hid hi
  have I1 := Lib.hid hz0
  have I2 := Lib.hid hz1
  have I3 := Lib.hid hz2
  have KL : ∀ t, Hid ((turnK (padK key) t).length = 64) := fun t => Lib.hid (by rw [turnK_length]; exact padK_length hk)
  have KLE := Lib.hid KL
  have hz32 := zero32.1
  clear hT hk ha hb hi hz0 hz1 hz2 KL
  go_enter Tryd.func5, Tryd.ntmps5
  go_wp2_with fail
  refine (alive_true _ HT.out).mono ?_
  rintro e w1 ⟨rfl, b1⟩
  have B1 := Lib.hid b1
  clear b1
  go_wp2_with fail
  refine (tag_any _ _ key a LE.out.1 (by have := LE.out.2.1; omega) _ (HT.out.below B1.out HT.out.pos) ((HX0.out.below B1.out).more B1.out.size) ((HX1.out.below B1.out).more B1.out.size)).mono ?_
  rintro e w2 ⟨rfl, b2⟩
  have B2 := Lib.hid (B1.out.trans (b2.mono B1.out.size))
  have XL := Lib.hid (tagL_length key a)
  have YL := Lib.hid (tagL_length key b)
  have IL := Lib.hid (innerL_length key a)
  have JL := Lib.hid (innerL_length key b)
  clear b2 B1
  go_wp2_with (refine wpList_store_new rfl _ _ rfl rfl rfl XL.out ?_; intro q2 hx2 hb2; have Q2 := Lib.hid (B2.out.trans (hb2.out.mono B2.out.size)); clear hb2 B2)
  refine (tag_any _ _ key b LE.out.1 (by have := LE.out.2.2; omega) _ (HT.out.below Q2.out HT.out.pos) ((HX0.out.below Q2.out).more Q2.out.size) ((HX2.out.below Q2.out).more Q2.out.size)).mono ?_
  rintro e w3 ⟨rfl, b3⟩
  have B3 := Lib.hid (Q2.out.trans (b3.mono Q2.out.size))
  have X3 := Lib.hid ((b3.block _ (heap_lt hx2.out)).trans hx2.out)
  clear b3 Q2 hx2
  go_wp2_with (refine wpList_store_new rfl _ _ rfl rfl rfl YL.out ?_; intro q3 hx3 hb3; have Q3 := Lib.hid (B3.out.trans (hb3.out.mono B3.out.size)); have Y3 := Lib.hid ((hb3.out.block _ (heap_lt X3.out)).trans X3.out); clear hb3 B3 X3)
  refine (kblock_any 54 _ rfl _ key LE.out.1 _ ((HX0.out.below Q3.out).more Q3.out.size)).mono ?_
  rintro e w4 ⟨rfl, ho4, b4⟩
  have O4 := Lib.hid ho4
  have D4 := Lib.hid b4
  clear ho4 b4
  go_wp2_with (refine wpList_append_txt (o := ⟨some 54, _, _, _, _, _⟩) rfl (.tmp 52) (.tmp 53) _ rfl Tryd.underlying26 I0.out I1.out I2.out I3.out rfl O4.out rfl (HX1.out.below (Q3.out.trans (D4.out.mono Q3.out.size))) (by have := LE.out.2.1; omega) D4.out.size ?_; intro v5 w5 hown5 hgrow5; have D5 := Lib.hid (D4.out.grown hgrow5 D4.out.size (own_ge O4.out)); have O5 := Lib.hid hown5; clear hown5 hgrow5 D4 O4)
  have tx5 : Txt w5 w5.heap.size v5 (turnK (padK key) 54 ++ a) := Txt.own (by rw [List.length_append, (KLE.out 54).out]; have := LE.out.2.1; unfold maxLen; omega) (base := q3.heap.size) (e := 5) (by rw [List.length_append, (KLE.out 54).out, List.map_append]; exact O5.out)
  refine (sum_any v5 _ (by rw [List.length_append, (KLE.out 54).out]; have := LE.out.2.1; omega) _ (HT.out.below (Q3.out.trans (D5.out.mono Q3.out.size)) HT.out.pos) tx5).mono ?_
  rintro e w6 ⟨rfl, b6⟩
  have hI : sumL (turnK (padK key) 54 ++ a) = innerL key a := rfl
  rw [hI]
  have D6 := Lib.hid (D5.out.trans (b6.mono D5.out.size))
  have B6 := Lib.hid (Q3.out.trans (D6.out.mono Q3.out.size))
  have X6 := Lib.hid ((D6.out.block _ (heap_lt Y3.out)).trans Y3.out)
  have Y6 := Lib.hid ((D6.out.block _ (heap_lt hx3.out)).trans hx3.out)
  clear b6 hI tx5 O5 D5 D6 Q3 Y3 hx3
  go_wp2_with (refine wpList_store_new rfl _ _ rfl rfl rfl IL.out ?_; intro q6 hx6 hb6; have Q6 := Lib.hid (B6.out.trans (hb6.out.mono B6.out.size)); have X7 := Lib.hid ((hb6.out.block _ (heap_lt X6.out)).trans X6.out); have Y7 := Lib.hid ((hb6.out.block _ (heap_lt Y6.out)).trans Y6.out); clear hb6 B6 X6 Y6)
  refine (kblock_any 54 _ rfl _ key LE.out.1 _ ((HX0.out.below Q6.out).more Q6.out.size)).mono ?_
  rintro e w7 ⟨rfl, ho7, b7⟩
  have O7 := Lib.hid ho7
  have D7 := Lib.hid b7
  clear ho7 b7
  go_wp2_with (refine wpList_append_txt (o := ⟨some 59, _, _, _, _, _⟩) rfl (.tmp 57) (.tmp 58) _ rfl Tryd.underlying26 I0.out I1.out I2.out I3.out rfl O7.out rfl (HX2.out.below (Q6.out.trans (D7.out.mono Q6.out.size))) (by have := LE.out.2.2; omega) D7.out.size ?_; intro v8 w8 hown8 hgrow8; have D8 := Lib.hid (D7.out.grown hgrow8 D7.out.size (own_ge O7.out)); have O8 := Lib.hid hown8; clear hown8 hgrow8 D7 O7)
  have tx8 : Txt w8 w8.heap.size v8 (turnK (padK key) 54 ++ b) := Txt.own (by rw [List.length_append, (KLE.out 54).out]; have := LE.out.2.2; unfold maxLen; omega) (base := q6.heap.size) (e := 5) (by rw [List.length_append, (KLE.out 54).out, List.map_append]; exact O8.out)
  refine (sum_any v8 _ (by rw [List.length_append, (KLE.out 54).out]; have := LE.out.2.2; omega) _ (HT.out.below (Q6.out.trans (D8.out.mono Q6.out.size)) HT.out.pos) tx8).mono ?_
  rintro e w9 ⟨rfl, b9⟩
  have hJ : sumL (turnK (padK key) 54 ++ b) = innerL key b := rfl
  rw [hJ]
  have D9 := Lib.hid (D8.out.trans (b9.mono D8.out.size))
  have B9 := Lib.hid (Q6.out.trans (D9.out.mono Q6.out.size))
  have X9 := Lib.hid ((D9.out.block _ (heap_lt Y7.out)).trans Y7.out)
  have Z9 := Lib.hid ((D9.out.block _ (heap_lt X7.out)).trans X7.out)
  have Y9 := Lib.hid ((D9.out.block _ (heap_lt hx6.out)).trans hx6.out)
  clear b9 hJ tx8 O8 D8 D9 Q6 X7 Y7 hx6
  go_wp2_with (refine wpList_store_new rfl _ _ rfl rfl rfl JL.out ?_; intro q9 hx9 hb9; have Q9 := Lib.hid (B9.out.trans (hb9.out.mono B9.out.size)); have S9 : Hid (NAt w2.heap.size w3.heap.size w6.heap.size w9.heap.size (tagL key a) (tagL key b) (innerL key a) (innerL key b) q9) := Lib.hid ⟨(hb9.out.block _ (heap_lt Z9.out)).trans Z9.out, (hb9.out.block _ (heap_lt X9.out)).trans X9.out, (hb9.out.block _ (heap_lt Y9.out)).trans Y9.out, hx9.out⟩; clear hb9 hx9 B9 X9 Y9 Z9)
  have R0 : Hid (Below q9.heap.size q9 q9.drew) := Lib.hid (Below.refl _ q9).drew
  by_cases hIJ : innerL key a = innerL key b
  · have HS2 : Hid (∀ w' : World, (Op.equalIn 10000 22 (.agg (rowB (innerL key a))) (.agg (rowB (innerL key b)))).run Tryd.prog w' = .ok true w') := Lib.hid (fun w' => by rw [run_equal32 _ _ IL.out JL.out, decide_eq_true hIJ])
    have hXY : tagL key a = tagL key b := by rw [tagL, tagL, hIJ]
    have HS3 : Hid (∀ w' : World, (Op.equalIn 10000 22 (.agg (rowB (tagL key a))) (.agg (rowB (tagL key b)))).run Tryd.prog w' = .ok true w') := Lib.hid (fun w' => by rw [run_equal32 _ _ XL.out YL.out, decide_eq_true hXY])
    clear hXY hIJ
    refine wp_region_held_drew (S := NAt w2.heap.size w3.heap.size w6.heap.size w9.heap.size (tagL key a) (tagL key b) (innerL key a) (innerL key b)) (by kernel_rfl) ?_ (fun hHeld => ?_)
    · exact S9.out.drew
    refine wpAnyH_take (i := 0) rfl (by kernel_rfl) (by kernel_rfl) (by kernel_rfl) (fun _ _ _ h => h) (yieldsIf_load_row (by rfl) 22 _ rfl w2.heap.size rfl (rowB (tagL key a)) (fun w' hSw => run_load_row (hSw.1) Tryd.underlying22 (by rw [rowB_size, XL.out]; exact zero32.2))) hHeld ?_
    simp only [List.getElem_toArray, List.getElem_cons_succ, List.getElem_cons_zero, Act.put, List.setIfInBounds_toArray, List.set_cons_zero, List.set_cons_succ]
    refine wpAnyH_take (i := 1) (v := ?_) rfl (by kernel_rfl) (by kernel_rfl) (by kernel_rfl) (fun _ _ _ h => h) (Or.inl ⟨by rfl, ?_⟩) hHeld ?_
    rotate_left
    · intro w' hSw; go_simp; try with_reducible rfl
    simp only [List.getElem_toArray, List.getElem_cons_succ, List.getElem_cons_zero, Act.put, List.setIfInBounds_toArray, List.set_cons_zero, List.set_cons_succ]
    refine wpAnyH_take (i := 3) (v := ?_) rfl (by kernel_rfl) (by kernel_rfl) (by kernel_rfl) (fun _ _ _ h => h) (Or.inl ⟨by rfl, ?_⟩) hHeld ?_
    rotate_left
    · intro w' hSw; go_simp; try with_reducible rfl
    simp only [List.getElem_toArray, List.getElem_cons_succ, List.getElem_cons_zero, Act.put, List.setIfInBounds_toArray, List.set_cons_zero, List.set_cons_succ]
    refine wpAnyH_ready (rs := [2]) (by kernel_rfl) (by simp) ?_
    refine AllReadyH.cons rfl (fun K hK => ?_) AllReadyH.nil
    go_simp
    refine (kblock_any 92 _ rfl _ key LE.out.1 _ ((HX0.out.below (Q9.out.trans (R0.out.mono Q9.out.size))).more (Q9.out.trans (R0.out.mono Q9.out.size)).size)).mono ?_
    rintro e wA ⟨rfl, hoA, bA⟩
    have OA := Lib.hid hoA
    have R1 := Lib.hid (R0.out.trans (bA.mono R0.out.size))
    clear hoA bA
    try go_wp2_with fail
    refine hK.out _ _ ?_ (fun hHeld => ?_)
    · exact S9.out.below R1.out
    clear hK K
    try simp only [List.getElem_toArray, List.getElem_cons_succ, List.getElem_cons_zero, Act.put, List.setIfInBounds_toArray, List.set_cons_zero, List.set_cons_succ]
    have txA : Txt wA wA.heap.size (.slice (some ⟨w6.heap.size, 0, none⟩) 32 32) (innerL key a) := by
      have := txt_of_block hHeld.2.2.1 (by rw [IL.out]; unfold maxLen; omega)
      rwa [IL.out] at this
    have TXA := Lib.hid txA
    clear txA
    refine wpAnyH_ready (rs := [4]) (by kernel_rfl) (by simp) ?_
    refine AllReadyH.cons rfl (fun K hK => ?_) AllReadyH.nil
    rw [if_pos (by rfl)]
    refine wp_append_txt (.tmp 63) (.tmp 64) _ rfl Tryd.underlying26 I0.out I1.out I2.out I3.out rfl OA.out rfl TXA.out (by rw [IL.out]; omega) R1.out.size ?_
    intro vB wB hownB hgrowB
    have OB := Lib.hid hownB
    have R2 := Lib.hid (R1.out.grown hgrowB R1.out.size (own_ge OA.out))
    clear hownB hgrowB OA TXA
    try go_wp2_with fail
    refine hK.out _ _ ?_ (fun hHeld => ?_)
    · exact S9.out.below R2.out
    clear hK K
    try simp only [List.getElem_toArray, List.getElem_cons_succ, List.getElem_cons_zero, Act.put, List.setIfInBounds_toArray, List.set_cons_zero, List.set_cons_succ]
    have tx8 : Txt wB wB.heap.size vB (turnK (padK key) 92 ++ innerL key a) := Txt.own (by rw [List.length_append, (KLE.out 92).out, IL.out]; unfold maxLen; omega) (base := q9.drew.heap.size) (e := 5) (by rw [List.length_append, (KLE.out 92).out, List.map_append]; exact OB.out)
    have TX8 := Lib.hid tx8
    clear tx8
    refine wpAnyH_ready (rs := [5]) (by kernel_rfl) (by simp) ?_
    refine AllReadyH.cons rfl (fun K hK => ?_) AllReadyH.nil
    go_simp
    refine (sum_any vB _ (by rw [List.length_append, (KLE.out 92).out, IL.out]; omega) _ (HT.out.below (Q9.out.trans (R2.out.mono Q9.out.size)) HT.out.pos) TX8.out).mono ?_
    rintro e wC ⟨rfl, bC⟩
    have hTG : sumL (turnK (padK key) 92 ++ innerL key a) = tagL key a := rfl
    rw [hTG]
    have R3 := Lib.hid (R2.out.trans (bC.mono R2.out.size))
    clear bC hTG
    try go_wp2_with fail
    refine hK.out _ _ ?_ (fun hHeld => ?_)
    · exact S9.out.below R3.out
    clear hK K
    try simp only [List.getElem_toArray, List.getElem_cons_succ, List.getElem_cons_zero, Act.put, List.setIfInBounds_toArray, List.set_cons_zero, List.set_cons_succ]
    refine wpAnyH_take (i := 6) (v := ?_) rfl (by kernel_rfl) (by kernel_rfl) (by kernel_rfl) (fun _ _ _ h => h) (Or.inl ⟨by rfl, ?_⟩) hHeld ?_
    rotate_left
    · intro w' hSw; have hs1 := same32 (tagL key a) XL.out; go_simp; try with_reducible rfl
    simp only [List.getElem_toArray, List.getElem_cons_succ, List.getElem_cons_zero, Act.put, List.setIfInBounds_toArray, List.set_cons_zero, List.set_cons_succ]
    refine wpAnyH_take (i := 7) (v := ?_) rfl (by kernel_rfl) (by kernel_rfl) (by kernel_rfl) (fun _ _ _ h => h) (Or.inl ⟨by rfl, ?_⟩) hHeld ?_
    rotate_left
    · intro w' hSw; go_simp; try with_reducible rfl
    simp only [List.getElem_toArray, List.getElem_cons_succ, List.getElem_cons_zero, Act.put, List.setIfInBounds_toArray, List.set_cons_zero, List.set_cons_succ]
    refine wpAnyH_take (i := 8) rfl (by kernel_rfl) (by kernel_rfl) (by kernel_rfl) (fun _ _ _ h => h) (yieldsIf_load_row (by rfl) 22 _ rfl w6.heap.size rfl (rowB (innerL key a)) (fun w' hSw => run_load_row (hSw.2.2.1) Tryd.underlying22 (by rw [rowB_size, IL.out]; exact zero32.2))) hHeld ?_
    simp only [List.getElem_toArray, List.getElem_cons_succ, List.getElem_cons_zero, Act.put, List.setIfInBounds_toArray, List.set_cons_zero, List.set_cons_succ]
    refine wpAnyH_take (i := 9) rfl (by kernel_rfl) (by kernel_rfl) (by kernel_rfl) (fun _ _ _ h => h) (yieldsIf_load_row (by rfl) 22 _ rfl w9.heap.size rfl (rowB (innerL key b)) (fun w' hSw => run_load_row (hSw.2.2.2) Tryd.underlying22 (by rw [rowB_size, JL.out]; exact zero32.2))) hHeld ?_
    simp only [List.getElem_toArray, List.getElem_cons_succ, List.getElem_cons_zero, Act.put, List.setIfInBounds_toArray, List.set_cons_zero, List.set_cons_succ]
    refine wpAnyH_take (i := 10) (v := ?_) rfl (by kernel_rfl) (by kernel_rfl) (by kernel_rfl) (fun _ _ _ h => h) (Or.inl ⟨by rfl, ?_⟩) hHeld ?_
    rotate_left
    · intro w' hSw; have hs2 := HS2.out; go_simp; try with_reducible rfl
    simp only [List.getElem_toArray, List.getElem_cons_succ, List.getElem_cons_zero, Act.put, List.setIfInBounds_toArray, List.set_cons_zero, List.set_cons_succ]
    refine wpAnyH_take (i := 11) (v := ?_) rfl (by kernel_rfl) (by kernel_rfl) (by kernel_rfl) (fun _ _ _ h => h) (Or.inl ⟨by rfl, ?_⟩) hHeld ?_
    rotate_left
    · intro w' hSw; go_simp; try with_reducible rfl
    simp only [List.getElem_toArray, List.getElem_cons_succ, List.getElem_cons_zero, Act.put, List.setIfInBounds_toArray, List.set_cons_zero, List.set_cons_succ]
    refine wpAnyH_take (i := 12) rfl (by kernel_rfl) (by kernel_rfl) (by kernel_rfl) (fun _ _ _ h => h) (yieldsIf_load_row (by rfl) 22 _ rfl w2.heap.size rfl (rowB (tagL key a)) (fun w' hSw => run_load_row (hSw.1) Tryd.underlying22 (by rw [rowB_size, XL.out]; exact zero32.2))) hHeld ?_
    simp only [List.getElem_toArray, List.getElem_cons_succ, List.getElem_cons_zero, Act.put, List.setIfInBounds_toArray, List.set_cons_zero, List.set_cons_succ]
    refine wpAnyH_take (i := 13) rfl (by kernel_rfl) (by kernel_rfl) (by kernel_rfl) (fun _ _ _ h => h) (yieldsIf_load_row (by rfl) 22 _ rfl w3.heap.size rfl (rowB (tagL key b)) (fun w' hSw => run_load_row (hSw.2.1) Tryd.underlying22 (by rw [rowB_size, YL.out]; exact zero32.2))) hHeld ?_
    simp only [List.getElem_toArray, List.getElem_cons_succ, List.getElem_cons_zero, Act.put, List.setIfInBounds_toArray, List.set_cons_zero, List.set_cons_succ]
    refine wpAnyH_take (i := 14) (v := ?_) rfl (by kernel_rfl) (by kernel_rfl) (by kernel_rfl) (fun _ _ _ h => h) (Or.inl ⟨by rfl, ?_⟩) hHeld ?_
    rotate_left
    · intro w' hSw; have hs3 := HS3.out; go_simp; try with_reducible rfl
    simp only [List.getElem_toArray, List.getElem_cons_succ, List.getElem_cons_zero, Act.put, List.setIfInBounds_toArray, List.set_cons_zero, List.set_cons_succ]
    refine wpAnyH_take (i := 15) (v := ?_) rfl (by kernel_rfl) (by kernel_rfl) (by kernel_rfl) (fun _ _ _ h => h) (Or.inl ⟨by rfl, ?_⟩) hHeld ?_
    rotate_left
    · intro w' hSw; go_simp; try with_reducible rfl
    simp only [List.getElem_toArray, List.getElem_cons_succ, List.getElem_cons_zero, Act.put, List.setIfInBounds_toArray, List.set_cons_zero, List.set_cons_succ]
    refine wpAnyH_take (i := 16) (v := ?_) rfl (by kernel_rfl) (by kernel_rfl) (by kernel_rfl) (fun _ _ _ h => h) (Or.inl ⟨by rfl, ?_⟩) hHeld ?_
    rotate_left
    · intro w' hSw; go_simp; try with_reducible rfl
    simp only [List.getElem_toArray, List.getElem_cons_succ, List.getElem_cons_zero, Act.put, List.setIfInBounds_toArray, List.set_cons_zero, List.set_cons_succ]
    refine wpAnyH_take (i := 17) (v := ?_) rfl (by kernel_rfl) (by kernel_rfl) (by kernel_rfl) (fun _ _ _ h => h) (Or.inl ⟨by rfl, ?_⟩) hHeld ?_
    rotate_left
    · intro w' hSw; go_simp; try with_reducible rfl
    simp only [List.getElem_toArray, List.getElem_cons_succ, List.getElem_cons_zero, Act.put, List.setIfInBounds_toArray, List.set_cons_zero, List.set_cons_succ]
    refine wpAnyH_done (by kernel_rfl) ?_ _
    have hall := Lib.hid (Q9.out.trans (R3.out.mono Q9.out.size))
    go_wp2_with fail
    go_ret
    exact ⟨rfl, hall.out⟩
  · have HS2 : Hid (∀ w' : World, (Op.equalIn 10000 22 (.agg (rowB (innerL key a))) (.agg (rowB (innerL key b)))).run Tryd.prog w' = .ok false w') := Lib.hid (fun w' => by rw [run_equal32 _ _ IL.out JL.out, decide_eq_false hIJ])
    clear hIJ
    refine wp_region_held_drew (S := NAt w2.heap.size w3.heap.size w6.heap.size w9.heap.size (tagL key a) (tagL key b) (innerL key a) (innerL key b)) (by kernel_rfl) ?_ (fun hHeld => ?_)
    · exact S9.out.drew
    refine wpAnyH_take (i := 0) rfl (by kernel_rfl) (by kernel_rfl) (by kernel_rfl) (fun _ _ _ h => h) (yieldsIf_load_row (by rfl) 22 _ rfl w2.heap.size rfl (rowB (tagL key a)) (fun w' hSw => run_load_row (hSw.1) Tryd.underlying22 (by rw [rowB_size, XL.out]; exact zero32.2))) hHeld ?_
    simp only [List.getElem_toArray, List.getElem_cons_succ, List.getElem_cons_zero, Act.put, List.setIfInBounds_toArray, List.set_cons_zero, List.set_cons_succ]
    refine wpAnyH_take (i := 1) (v := ?_) rfl (by kernel_rfl) (by kernel_rfl) (by kernel_rfl) (fun _ _ _ h => h) (Or.inl ⟨by rfl, ?_⟩) hHeld ?_
    rotate_left
    · intro w' hSw; go_simp; try with_reducible rfl
    simp only [List.getElem_toArray, List.getElem_cons_succ, List.getElem_cons_zero, Act.put, List.setIfInBounds_toArray, List.set_cons_zero, List.set_cons_succ]
    refine wpAnyH_take (i := 3) (v := ?_) rfl (by kernel_rfl) (by kernel_rfl) (by kernel_rfl) (fun _ _ _ h => h) (Or.inl ⟨by rfl, ?_⟩) hHeld ?_
    rotate_left
    · intro w' hSw; go_simp; try with_reducible rfl
    simp only [List.getElem_toArray, List.getElem_cons_succ, List.getElem_cons_zero, Act.put, List.setIfInBounds_toArray, List.set_cons_zero, List.set_cons_succ]
    refine wpAnyH_ready (rs := [2]) (by kernel_rfl) (by simp) ?_
    refine AllReadyH.cons rfl (fun K hK => ?_) AllReadyH.nil
    go_simp
    refine (kblock_any 92 _ rfl _ key LE.out.1 _ ((HX0.out.below (Q9.out.trans (R0.out.mono Q9.out.size))).more (Q9.out.trans (R0.out.mono Q9.out.size)).size)).mono ?_
    rintro e wA ⟨rfl, hoA, bA⟩
    have OA := Lib.hid hoA
    have R1 := Lib.hid (R0.out.trans (bA.mono R0.out.size))
    clear hoA bA
    try go_wp2_with fail
    refine hK.out _ _ ?_ (fun hHeld => ?_)
    · exact S9.out.below R1.out
    clear hK K
    try simp only [List.getElem_toArray, List.getElem_cons_succ, List.getElem_cons_zero, Act.put, List.setIfInBounds_toArray, List.set_cons_zero, List.set_cons_succ]
    have txA : Txt wA wA.heap.size (.slice (some ⟨w6.heap.size, 0, none⟩) 32 32) (innerL key a) := by
      have := txt_of_block hHeld.2.2.1 (by rw [IL.out]; unfold maxLen; omega)
      rwa [IL.out] at this
    have TXA := Lib.hid txA
    clear txA
    refine wpAnyH_ready (rs := [4]) (by kernel_rfl) (by simp) ?_
    refine AllReadyH.cons rfl (fun K hK => ?_) AllReadyH.nil
    rw [if_pos (by rfl)]
    refine wp_append_txt (.tmp 63) (.tmp 64) _ rfl Tryd.underlying26 I0.out I1.out I2.out I3.out rfl OA.out rfl TXA.out (by rw [IL.out]; omega) R1.out.size ?_
    intro vB wB hownB hgrowB
    have OB := Lib.hid hownB
    have R2 := Lib.hid (R1.out.grown hgrowB R1.out.size (own_ge OA.out))
    clear hownB hgrowB OA TXA
    try go_wp2_with fail
    refine hK.out _ _ ?_ (fun hHeld => ?_)
    · exact S9.out.below R2.out
    clear hK K
    try simp only [List.getElem_toArray, List.getElem_cons_succ, List.getElem_cons_zero, Act.put, List.setIfInBounds_toArray, List.set_cons_zero, List.set_cons_succ]
    have tx8 : Txt wB wB.heap.size vB (turnK (padK key) 92 ++ innerL key a) := Txt.own (by rw [List.length_append, (KLE.out 92).out, IL.out]; unfold maxLen; omega) (base := q9.drew.heap.size) (e := 5) (by rw [List.length_append, (KLE.out 92).out, List.map_append]; exact OB.out)
    have TX8 := Lib.hid tx8
    clear tx8
    refine wpAnyH_ready (rs := [5]) (by kernel_rfl) (by simp) ?_
    refine AllReadyH.cons rfl (fun K hK => ?_) AllReadyH.nil
    go_simp
    refine (sum_any vB _ (by rw [List.length_append, (KLE.out 92).out, IL.out]; omega) _ (HT.out.below (Q9.out.trans (R2.out.mono Q9.out.size)) HT.out.pos) TX8.out).mono ?_
    rintro e wC ⟨rfl, bC⟩
    have hTG : sumL (turnK (padK key) 92 ++ innerL key a) = tagL key a := rfl
    rw [hTG]
    have R3 := Lib.hid (R2.out.trans (bC.mono R2.out.size))
    clear bC hTG
    try go_wp2_with fail
    refine hK.out _ _ ?_ (fun hHeld => ?_)
    · exact S9.out.below R3.out
    clear hK K
    try simp only [List.getElem_toArray, List.getElem_cons_succ, List.getElem_cons_zero, Act.put, List.setIfInBounds_toArray, List.set_cons_zero, List.set_cons_succ]
    refine wpAnyH_take (i := 6) (v := ?_) rfl (by kernel_rfl) (by kernel_rfl) (by kernel_rfl) (fun _ _ _ h => h) (Or.inl ⟨by rfl, ?_⟩) hHeld ?_
    rotate_left
    · intro w' hSw; have hs1 := same32 (tagL key a) XL.out; go_simp; try with_reducible rfl
    simp only [List.getElem_toArray, List.getElem_cons_succ, List.getElem_cons_zero, Act.put, List.setIfInBounds_toArray, List.set_cons_zero, List.set_cons_succ]
    refine wpAnyH_take (i := 7) (v := ?_) rfl (by kernel_rfl) (by kernel_rfl) (by kernel_rfl) (fun _ _ _ h => h) (Or.inl ⟨by rfl, ?_⟩) hHeld ?_
    rotate_left
    · intro w' hSw; go_simp; try with_reducible rfl
    simp only [List.getElem_toArray, List.getElem_cons_succ, List.getElem_cons_zero, Act.put, List.setIfInBounds_toArray, List.set_cons_zero, List.set_cons_succ]
    refine wpAnyH_take (i := 8) rfl (by kernel_rfl) (by kernel_rfl) (by kernel_rfl) (fun _ _ _ h => h) (yieldsIf_load_row (by rfl) 22 _ rfl w6.heap.size rfl (rowB (innerL key a)) (fun w' hSw => run_load_row (hSw.2.2.1) Tryd.underlying22 (by rw [rowB_size, IL.out]; exact zero32.2))) hHeld ?_
    simp only [List.getElem_toArray, List.getElem_cons_succ, List.getElem_cons_zero, Act.put, List.setIfInBounds_toArray, List.set_cons_zero, List.set_cons_succ]
    refine wpAnyH_take (i := 9) rfl (by kernel_rfl) (by kernel_rfl) (by kernel_rfl) (fun _ _ _ h => h) (yieldsIf_load_row (by rfl) 22 _ rfl w9.heap.size rfl (rowB (innerL key b)) (fun w' hSw => run_load_row (hSw.2.2.2) Tryd.underlying22 (by rw [rowB_size, JL.out]; exact zero32.2))) hHeld ?_
    simp only [List.getElem_toArray, List.getElem_cons_succ, List.getElem_cons_zero, Act.put, List.setIfInBounds_toArray, List.set_cons_zero, List.set_cons_succ]
    refine wpAnyH_take (i := 10) (v := ?_) rfl (by kernel_rfl) (by kernel_rfl) (by kernel_rfl) (fun _ _ _ h => h) (Or.inl ⟨by rfl, ?_⟩) hHeld ?_
    rotate_left
    · intro w' hSw; have hs2 := HS2.out; go_simp; try with_reducible rfl
    simp only [List.getElem_toArray, List.getElem_cons_succ, List.getElem_cons_zero, Act.put, List.setIfInBounds_toArray, List.set_cons_zero, List.set_cons_succ]
    refine wpAnyH_take (i := 11) (v := ?_) rfl (by kernel_rfl) (by kernel_rfl) (by kernel_rfl) (fun _ _ _ h => h) (Or.inl ⟨by rfl, ?_⟩) hHeld ?_
    rotate_left
    · intro w' hSw; go_simp; try with_reducible rfl
    simp only [List.getElem_toArray, List.getElem_cons_succ, List.getElem_cons_zero, Act.put, List.setIfInBounds_toArray, List.set_cons_zero, List.set_cons_succ]
    refine wpAnyH_take (i := 12) (v := undef) rfl (by kernel_rfl) (by kernel_rfl) (by kernel_rfl) (fun _ _ _ h => h) (Or.inr ⟨by rfl, rfl⟩) hHeld ?_
    simp only [List.getElem_toArray, List.getElem_cons_succ, List.getElem_cons_zero, Act.put, List.setIfInBounds_toArray, List.set_cons_zero, List.set_cons_succ]
    refine wpAnyH_take (i := 13) (v := undef) rfl (by kernel_rfl) (by kernel_rfl) (by kernel_rfl) (fun _ _ _ h => h) (Or.inr ⟨by rfl, rfl⟩) hHeld ?_
    simp only [List.getElem_toArray, List.getElem_cons_succ, List.getElem_cons_zero, Act.put, List.setIfInBounds_toArray, List.set_cons_zero, List.set_cons_succ]
    refine wpAnyH_take (i := 14) (v := undef) rfl (by kernel_rfl) (by kernel_rfl) (by kernel_rfl) (fun _ _ _ h => h) (Or.inr ⟨by rfl, rfl⟩) hHeld ?_
    simp only [List.getElem_toArray, List.getElem_cons_succ, List.getElem_cons_zero, Act.put, List.setIfInBounds_toArray, List.set_cons_zero, List.set_cons_succ]
    refine wpAnyH_take (i := 15) (v := ?_) rfl (by kernel_rfl) (by kernel_rfl) (by kernel_rfl) (fun _ _ _ h => h) (Or.inl ⟨by rfl, ?_⟩) hHeld ?_
    rotate_left
    · intro w' hSw; go_simp; try with_reducible rfl
    simp only [List.getElem_toArray, List.getElem_cons_succ, List.getElem_cons_zero, Act.put, List.setIfInBounds_toArray, List.set_cons_zero, List.set_cons_succ]
    refine wpAnyH_take (i := 16) (v := ?_) rfl (by kernel_rfl) (by kernel_rfl) (by kernel_rfl) (fun _ _ _ h => h) (Or.inl ⟨by rfl, ?_⟩) hHeld ?_
    rotate_left
    · intro w' hSw; go_simp; try with_reducible rfl
    simp only [List.getElem_toArray, List.getElem_cons_succ, List.getElem_cons_zero, Act.put, List.setIfInBounds_toArray, List.set_cons_zero, List.set_cons_succ]
    refine wpAnyH_take (i := 17) (v := ?_) rfl (by kernel_rfl) (by kernel_rfl) (by kernel_rfl) (fun _ _ _ h => h) (Or.inl ⟨by rfl, ?_⟩) hHeld ?_
    rotate_left
    · intro w' hSw; go_simp; try with_reducible rfl
    simp only [List.getElem_toArray, List.getElem_cons_succ, List.getElem_cons_zero, Act.put, List.setIfInBounds_toArray, List.set_cons_zero, List.set_cons_succ]
    refine wpAnyH_done (by kernel_rfl) ?_ _
    have hall := Lib.hid (Q9.out.trans (R3.out.mono Q9.out.size))
    go_wp2_with fail
    go_ret
    exact ⟨rfl, hall.out⟩

theorem walk_nested (v0 v1 v2 : Value) (key a b : List UInt8) (w : World) (hT : Tab w) (h0 : Txt w w.heap.size v0 key) (h1 : Txt w w.heap.size v1 a) (h2 : Txt w w.heap.size v2 b) :
    Calls Tryd.prog 5 #[v0, v1, v2] w fun e w' => e = .returned (.bool true) ∧ Below w.heap.size w w' := by
  by_cases h : 64 < key.length ∨ 3000 < a.length ∨ 3000 < b.length
  · exact nested_off v0 v1 v2 key a b h w hT h0 h1 h2
  · exact nested_all v0 v1 v2 key a b (by omega) (by omega) (by omega) w hT h0 h1 h2
end Go.Proofs.YtdaaemnfphagbaaDoor
