/-
  The statement HmacKeys' text returns true: noughts behind a key change nothing.
  Conditions: the table of constants reads as it was laid.
-/
import Derived.Test.YtdaaemnfphagbaaDoorHmacZeros
import Derived.Test.YtdaaemnfphagbaaDoorHmacFlip
import Derived.Test.YtdaaemnfphagbaaDoorHmacBoth
set_option linter.unusedVariables false
set_option linter.unusedSimpArgs false
namespace Go.Proofs.YtdaaemnfphagbaaDoor
open Go.RowKit

theorem wpList_append_zeros {P : Program} {w : World} {ops : Array Oper} {rest : List Oper} {o : Oper} {a : Act} {Q : Exit → Act → World → Prop} (hgd : o.guard = none) (s x : Operand) (t tn : TypeId)
    (ho : o.op = .call { callee := .builtin .append, args := #[s, x], argTypes := #[t, tn] }) {k kn : IntKind}
    {base e : Nat} {i : TypeInfo} (ht : P.underlying t = some (.slice e)) (htn : P.underlying tn = some (.int kn)) (hi : P.info? e = some i) (hz : i.zero = some (.int .u8 0)) (hsize : i.size = 1) (hby : i.bytes = 1)
    {v : Value} {n : Nat} {ys : List Value} (hs : a.eval s = v) (hown : w.ownsRow base e 1 v n ys) {m : Nat} (hu : a.eval x = .int k m) (h63 : n + m ≤ 100000) (hbase : base ≤ w.heap.size)
    (h : ∀ v' w', w'.ownsRow base e 1 v' (n + m) (ys ++ List.replicate m (.int .u8 0)) → w.grownBy w' v.ownBlock → wpList P ops Q rest (a.put o.dst v') w') : wpList P ops Q (o :: rest) a w := by
  obtain ⟨v', w', hrun, h2, h3⟩ := run_append_zeros (ty := o.type) (k := k) ht htn hi hz hsize hby hown m h63 hbase
  exact Lib.wpList_append_run w hgd s x t tn ho _ _ hs hu v' w' hrun (h v' w' h2 h3)

theorem keys_off (v0 v2 : Value) (m : Int) (key b : List UInt8) (h : 3000 < key.length ∨ 3000 < b.length) (w : World) (hT : Tab w) (h0 : Txt w w.heap.size v0 key) (h2 : Txt w w.heap.size v2 b) :
    Calls Tryd.prog 6 #[v0, .int .u8 m, v2] w fun e w' => e = .returned (.bool true) ∧ Below w.heap.size w w' := by
  have HT := Lib.hid hT
  clear hT
  obtain ⟨A0, c0, rfl, -, -, -, -⟩ := h0
  obtain ⟨A2, c2, rfl, -, -, -, -⟩ := h2
  by_cases g1 : (3000 : Int) < key.length
  · go_enter Tryd.func6, Tryd.ntmps6
    go_wp2_with fail
    refine (alive_true _ HT.out).mono ?_
    rintro e w1 ⟨rfl, b⟩
    have B1 := Lib.hid b
    clear b
    go_wp2
    go_ret
    exact ⟨rfl, B1.out⟩
  · have g2 : (3000 : Int) < b.length := by omega
    go_enter Tryd.func6, Tryd.ntmps6
    go_wp2_with fail
    refine (alive_true _ HT.out).mono ?_
    rintro e w1 ⟨rfl, b⟩
    have B1 := Lib.hid b
    clear b
    go_wp2
    go_ret
    exact ⟨rfl, B1.out⟩

set_option maxHeartbeats 2000000 in
theorem keys_all (v0 v2 : Value) (m : Nat) (hm : m < 256) (key b : List UInt8) (hkl : key.length ≤ 3000) (hbl : b.length ≤ 3000) (w : World) (hT : Tab w) (h0 : Txt w w.heap.size v0 key) (h2 : Txt w w.heap.size v2 b) :
    Calls Tryd.prog 6 #[v0, .int .u8 m, v2] w fun e w' => e = .returned (.bool true) ∧ Below w.heap.size w w' := by
  have HT := Lib.hid hT
  have HX0 := Lib.hid h0
  have HX2 := Lib.hid h2
  have LE : Hid (key.length ≤ 3000 ∧ b.length ≤ 3000 ∧ m < 256) := Lib.hid ⟨hkl, hbl, hm⟩
  have g1 : ¬ (3000 : Int) < key.length := by omega
  have g2 : ¬ (3000 : Int) < b.length := by omega
  obtain ⟨A0, c0, rfl, -, -, -, -⟩ := h0
  obtain ⟨A2, c2, rfl, -, -, -, -⟩ := h2
  obtain ⟨i0, hi, hz0, hz1, hz2⟩ := info_parts infoByte
  have I0 := Lib.hid hi
  have I1 := Lib.hid hz0
  have I2 := Lib.hid hz1
  have I3 := Lib.hid hz2
  have XL := Lib.hid (tagZ_length key b)
  have YL := Lib.hid (tagZ_length (key ++ List.replicate m 0) b)
  clear hT hkl hbl hi hz0 hz1 hz2
  go_enter Tryd.func6, Tryd.ntmps6
  go_wp2_with fail
  refine (alive_true _ HT.out).mono ?_
  rintro e w1 ⟨rfl, b1⟩
  have B1 := Lib.hid b1
  clear b1
  go_wp2_with (first
    | ((with_reducible show wpList _ _ _ (⟨some 29, _, _, _, _, _⟩ :: _) _ _); refine wpList_append_txt (o := ⟨some 29, _, _, _, _, _⟩) rfl (.tmp 27) (.tmp 28) _ rfl Tryd.underlying26 I0.out I1.out I2.out I3.out rfl (World.ownsRow_nil _ w1.heap.size 5 1) rfl ((HX0.out.below B1.out).more B1.out.size) (by have := LE.out.1; omega) (Nat.le_refl _) ?_; intro v2 w2 hown2 hgrow2; have b2 := (Below.refl w1.heap.size w1).grown hgrow2 (Nat.le_refl _) (fun k hk => by cases hk); have B2 := Lib.hid b2; have O2 := Lib.hid hown2; clear b2 hown2 hgrow2)
    | ((with_reducible show wpList _ _ _ (⟨some 33, _, _, _, _, _⟩ :: _) _ _); refine wpList_append_zeros (o := ⟨some 33, _, _, _, _, _⟩) rfl (.tmp 30) (.tmp 32) _ _ rfl Tryd.underlying26 Tryd.underlying3 I0.out I1.out I2.out I3.out rfl O2.out (m := m) rfl (by have := LE.out; omega) B2.out.size ?_; intro v3 w3 hown3 hgrow3; have b3 := B2.out.grown hgrow3 B2.out.size (own_ge O2.out); have B3 := Lib.hid b3; obtain ⟨A3, c3, rfl⟩ := own_slice_ hown3; have O3 := Lib.hid hown3; clear b3 hown3 hgrow3))
  have txL : Txt w3 w3.heap.size (.slice A3 (key.length + m) c3) (key ++ List.replicate m 0) :=
    Txt.own (by rw [List.length_append, List.length_replicate]; have := LE.out; unfold maxLen; omega) (base := w1.heap.size) (e := 5) (by
      rw [List.length_append, List.length_replicate, List.map_append, List.map_replicate]; have := O3.out; simp only [Nat.zero_add, List.nil_append] at this; exact this)
  have TXL := Lib.hid txL
  have W3 := Lib.hid (B1.out.trans (B3.out.mono B1.out.size))
  have hZ : key.length + m ≤ 64 → tagZ key b = tagZ (key ++ List.replicate m 0) b := fun h => by
    rw [tagZ, tagZ, if_pos (by omega), if_pos (by rw [List.length_append, List.length_replicate]; exact h), tagL_noughts b h]
  have HZ := Lib.hid hZ
  have hC2 : tagC (key ++ List.replicate m 0) = if key.length + m ≤ 64 then 0 else 3 := by rw [tagC, List.length_append, List.length_replicate]
  have HC2 := Lib.hid hC2
  obtain ⟨K2, hK2⟩ : ∃ K2, K2 = key ++ List.replicate m 0 := ⟨_, rfl⟩
  rw [← hK2] at YL TXL HZ HC2
  obtain ⟨n, hn⟩ : ∃ n, n = key.length + m := ⟨_, rfl⟩
  rw [← hn] at TXL HZ HC2 ⊢
  have HN := Lib.hid hn
  clear txL hZ hC2 O3 B3 B1 O2 B2 hK2 hn
  refine (tag_both _ _ key b (by have := LE.out.2.1; omega) _ (HT.out.below W3.out HT.out.pos) ((HX0.out.below W3.out).more W3.out.size) ((HX2.out.below W3.out).more W3.out.size)).mono ?_
  rintro e w4 ⟨rfl, b4⟩
  have B4 := Lib.hid (W3.out.trans (b4.mono W3.out.size))
  have T4 := Lib.hid ((TXL.out.below b4).more b4.size)
  clear b4 W3 TXL
  go_wp2_with ((with_reducible show wpList _ _ _ (⟨none, _, _, _, _, _⟩ :: _) _ _); refine wpList_store_new (op := ⟨none, _, _, _, _, _⟩) rfl _ _ rfl rfl rfl XL.out ?_; intro q4 hx4 hb4; have Q4 := Lib.hid (B4.out.trans (hb4.out.mono B4.out.size)); have T5 := Lib.hid ((T4.out.below hb4.out).more hb4.out.size); clear hb4 B4 T4)
  refine (tag_both _ _ K2 b (by have := LE.out.2.1; omega) _ (HT.out.below Q4.out HT.out.pos) T5.out ((HX2.out.below Q4.out).more Q4.out.size)).mono ?_
  rintro e w5 ⟨rfl, b5⟩
  have B5 := Lib.hid (Q4.out.trans (b5.mono Q4.out.size))
  have X5 := Lib.hid ((b5.block _ (heap_lt hx4.out)).trans hx4.out)
  clear b5 Q4 hx4 T5
  by_cases k1 : (key.length : Int) ≤ 64
  · rw [show tagC key = 0 by rw [tagC, if_pos (by omega)]]
    by_cases k2 : (n : Int) ≤ 64
    · have hZ := HZ.out (by omega)
      rw [show tagC K2 = 0 by rw [HC2.out, if_pos (by omega)], ← hZ]
      clear hZ HZ HC2
      generalize tagZ key b = Z at *
      have hs := same32 Z XL.out
      go_wp2_with (first
        | ((with_reducible show wpList _ _ _ (⟨some 63, _, _, _, _, _⟩ :: _) _ _); refine wpList_load_let (by rfl) 22 _ rfl _ rfl X6.out Tryd.underlying22 (by rw [rowB_size, XL.out]; exact zero32.2) ?_)
        | ((with_reducible show wpList _ _ _ (⟨some 64, _, _, _, _, _⟩ :: _) _ _); refine wpList_load_let (by rfl) 22 _ rfl _ rfl hx5.out Tryd.underlying22 (by rw [rowB_size, XL.out]; exact zero32.2) ?_)
        | ((with_reducible show wpList _ _ _ (⟨none, _, _, _, _, _⟩ :: _) _ _); refine wpList_store_new (op := ⟨none, _, _, _, _, _⟩) rfl _ _ rfl rfl rfl XL.out ?_; intro q5 hx5 hb5; have Q5 := Lib.hid (B5.out.trans (hb5.out.mono B5.out.size)); have X6 := Lib.hid ((hb5.out.block _ (heap_lt X5.out)).trans X5.out); clear hb5 B5 X5))
      go_ret
      exact ⟨rfl, Q5.out⟩
    · rw [show tagC K2 = 3 by rw [HC2.out, if_neg (by omega)]]
      go_wp2_with ((with_reducible show wpList _ _ _ (⟨none, _, _, _, _, _⟩ :: _) _ _); refine wpList_store_new (op := ⟨none, _, _, _, _, _⟩) rfl _ _ rfl rfl rfl YL.out ?_; intro q5 hx5 hb5; have Q5 := Lib.hid (B5.out.trans (hb5.out.mono B5.out.size)); have X6 := Lib.hid ((hb5.out.block _ (heap_lt X5.out)).trans X5.out); clear hb5 B5 X5)
      go_ret
      exact ⟨rfl, Q5.out⟩
  · have k2 : ¬ (n : Int) ≤ 64 := by have := HN.out; omega
    rw [show tagC key = 3 by rw [tagC, if_neg (by omega)], show tagC K2 = 3 by rw [HC2.out, if_neg (by omega)]]
    go_wp2_with ((with_reducible show wpList _ _ _ (⟨none, _, _, _, _, _⟩ :: _) _ _); refine wpList_store_new (op := ⟨none, _, _, _, _, _⟩) rfl _ _ rfl rfl rfl YL.out ?_; intro q5 hx5 hb5; have Q5 := Lib.hid (B5.out.trans (hb5.out.mono B5.out.size)); have X6 := Lib.hid ((hb5.out.block _ (heap_lt X5.out)).trans X5.out); clear hb5 B5 X5)
    go_ret
    exact ⟨rfl, Q5.out⟩

theorem walk_keys (v0 v2 : Value) (m : Int) (key b : List UInt8) (hm : (Lit.int .u8 m).wf = true) (w : World) (hT : Tab w) (h0 : Txt w w.heap.size v0 key) (h2 : Txt w w.heap.size v2 b) :
    Calls Tryd.prog 6 #[v0, .int .u8 m, v2] w fun e w' => e = .returned (.bool true) ∧ Below w.heap.size w w' := by
  have hb := bounds_u8 hm
  by_cases h : 3000 < key.length ∨ 3000 < b.length
  · exact keys_off v0 v2 m key b h w hT h0 h2
  · obtain ⟨n, rfl⟩ : ∃ n : Nat, m = n := ⟨m.toNat, by omega⟩
    exact keys_all v0 v2 n (by omega) key b (by omega) (by omega) w hT h0 h2
end Go.Proofs.YtdaaemnfphagbaaDoor
