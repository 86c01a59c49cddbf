/-
  The statement HmacNames' text returns true.
  Conditions: the table of constants reads as it was laid.
-/
import Derived.Test.YtdaaemnfphagbaaDoorHmacAlive
set_option linter.unusedVariables false
set_option linter.unusedSimpArgs false
namespace Go.Proofs.YtdaaemnfphagbaaDoor
open Go.RowKit

def z65 : List UInt8 := List.replicate 65 0
theorem z65_length : z65.length = 65 := List.length_replicate
theorem tag_k_zero : ¬ tagL [107] [] = List.replicate 32 0 := by decide +kernel

theorem tag_65 (w : World) : Calls Tryd.prog 8 #[.slice (some ⟨w.heap.size, 0, none⟩) 65 65, .slice none 0 0] (w.alloc (.cells (rowB z65) 5)) fun e w' => (∃ Z, Z.length = 32 ∧ e = .returned (.tuple #[.agg (rowB Z), .int .i64 3])) ∧ Below w.heap.size w w' := by
  have hx := txt_of_block (heap_alloc_self w (.cells (rowB z65) 5)) (by rw [z65_length]; unfold maxLen; omega)
  rw [z65_length] at hx
  refine (tag_long _ _ z65 (by rw [z65_length]; omega) _ hx).mono ?_
  rintro e w' ⟨rfl, b⟩
  exact ⟨⟨_, List.length_replicate, rfl⟩, (below_new w _).trans (b.mono (by simp))⟩
theorem tag_lit (key : List UInt8) (hk : key.length ≤ 64) (S : List UInt8) (hS : tagL key [] = S) (fr : Nat × Nat) (w : World) (hT : Tab w) :
    Calls Tryd.prog 8 #[.slice (some ⟨w.heap.size, 0, none⟩) key.length key.length, .slice none 0 0] (w.alloc (.cells (key.map u8).toArray 5 fr)) fun e w' => e = .returned (.tuple #[.agg (rowB S), .int .i64 0]) ∧ Below w.heap.size w w' := by
  have hbn := below_new w (.cells (key.map u8).toArray 5 fr)
  refine (tag_any _ _ key [] hk (by simp) _ (hT.below hbn hT.pos) (txt_mark w _ key fr (by unfold maxLen; omega)) (Txt.nil_ _ _)).mono ?_
  rintro e w' ⟨rfl, b⟩
  exact ⟨by rw [hS], hbn.trans (b.mono hbn.size)⟩
theorem same_zero (a : List UInt8) (ha : a.length = 32) (hz : ¬ a = List.replicate 32 0) (w : World) :
    Calls Tryd.prog 10 #[.agg (rowB a), .agg (Array.replicate 32 (.int .u8 0))] w fun e w' => e = .returned (.bool false) ∧ Below w.heap.size w w' := by
  rw [← rowB_zero]
  refine (same_any a _ ha List.length_replicate w).mono ?_
  rintro e w' ⟨rfl, b⟩
  exact ⟨by rw [decide_eq_false hz], b⟩
theorem same_self (a : List UInt8) (ha : a.length = 32) (w : World) :
    Calls Tryd.prog 10 #[.agg (rowB a), .agg (rowB a)] w fun e w' => e = .returned (.bool true) ∧ Below w.heap.size w w' := by
  refine (same_any a a ha ha w).mono ?_
  rintro e w' ⟨rfl, b⟩
  exact ⟨by rw [decide_eq_true rfl], b⟩

/-- A tag, stored into a variable that was just made. -/
theorem wpList_store_new {ops : Array Oper} {rest : List Oper} {op : Oper} {a : Act} {w : World} {Q : Exit → Act → World → Prop} (hgd : op.guard = none) (x y : Operand) (ho : op.op = .store 22 x y)
    (hx : a.eval x = .pointer (some ⟨w.heap.size, 0, none⟩)) {l : List UInt8} (hy : a.eval y = .agg (rowB l)) (hl : l.length = 32)
    (h : ∀ q, Hid (q.heap[w.heap.size]? = some (.cells (rowB l) 22 (0, 0))) → Hid (Below w.heap.size w q) → wpList Tryd.prog ops Q rest (a.put op.dst undef) q) :
    wpList Tryd.prog ops Q (op :: rest) a (w.alloc (.cells (Array.replicate 32 (.int .u8 0)) 22)) := by
  refine wpList_store_row hgd 22 x y ho w.heap.size hx hy (heap_alloc_self _ _) (by rw [rowB_size, hl]; exact zero32.2) (by rw [rowB_size, hl]; simp) (rowB_one _) ?_
  rw [World.setRow_alloc_new]
  exact h _ (Lib.hid (heap_alloc_self _ _)) (Lib.hid (below_new _ _))

/-- A whole array, out of a block that holds it, at an operation that a guard lets through. -/
theorem wpList_load_let {P : Program} {ops : Array Oper} {rest : List Oper} {op : Oper} {a : Act} {w : World} {Q : Exit → Act → World → Prop} (hw : Region.wanted op (yielded ops a.tmps) = true) (ty : TypeId) (x : Operand) (ho : op.op = .load ty x)
    (b : Nat) (hx : a.eval x = .pointer (some ⟨b, 0, none⟩)) {c : Array Value} {t : TypeId} (hb : w.heap[b]? = some (.cells c t (0, 0))) {n : Nat} {e : TypeId}
    (hu : P.underlying ty = some (.array n e)) (hi : (P.info? ty).map (·.size) = some c.size)
    (h : wpList P ops Q rest (a.put op.dst (.agg c)) w) : wpList P ops Q (op :: rest) a w :=
  wpList_step fun K hK => by
    rw [if_pos hw]
    exact wp_load_mid ty x ho b 0 hx c.toList (.array n e) (fun j v hv => by rw [Nat.zero_add, cell_of_row _ _ j c t (0, 0) hb]; simpa using hv) hu rfl (by simpa using hi) (by simpa using hK _ _ h)

set_option maxHeartbeats 1000000 in
theorem walk_names (w : World) (hT : Tab w) : Calls Tryd.prog 3 #[] w fun e w' => e = .returned (.bool true) ∧ Below w.heap.size w w' := by
  have HT := Lib.hid hT
  clear hT
  have hz32 := zero32.1
  have kc := fun (w : World) (C : Array Value) (n c : Nat) => Lib.run_convert_bytes_const (P := Tryd.prog) w 26 5 C n c Tryd.underlying26 Tryd.underlying5
  have hmk : ∀ w' : World, (Instr.makeSlice 26 (.int .i64 65) (.int .i64 65)).run Tryd.prog w' = .ok (.slice (some ⟨w'.heap.size, 0, none⟩) 65 65) (w'.alloc (.cells (rowB z65) 5)) := make_noughts 65 (by omega)
  obtain ⟨S, hS⟩ : ∃ S, tagL [107] [] = S := ⟨_, rfl⟩
  have hS2 : tagL [107, 0] [] = S := by
    rw [← hS]; exact tagL_noughts (key := [107]) (m := 1) [] (by decide)
  have hSL : S.length = 32 := by rw [← hS]; exact tagL_length _ _
  have hSZ : ¬ S = List.replicate 32 0 := by rw [← hS]; exact tag_k_zero
  have S1 := Lib.hid hS
  have S2 := Lib.hid hS2
  have SL := Lib.hid hSL
  have SZ := Lib.hid hSZ
  have hs := same32 S hSL
  clear hS hS2 hSL hSZ
  go_enter Tryd.func3, Tryd.ntmps3
  go_wp2_with fail
  refine (tag_65 _).mono ?_
  rintro e w1 ⟨⟨Z, hZ, rfl⟩, b⟩
  have B1 := Lib.hid b
  have ZL := Lib.hid hZ
  clear b hZ hmk
  go_wp2_with (refine wpList_store_new rfl _ _ rfl rfl rfl ZL.out ?_; intro q1 hx1 hb1; have Q1 := Lib.hid (B1.out.trans (hb1.out.mono B1.out.size)); clear hx1 hb1 B1)
  refine (tag_lit [107] (by decide) S S1.out _ _ (HT.out.below Q1.out HT.out.pos)).mono ?_
  rintro e w2 ⟨rfl, b⟩
  have B2 := Lib.hid (Q1.out.trans (b.mono Q1.out.size))
  clear b Q1
  go_wp2_with (refine wpList_store_new rfl _ _ rfl rfl rfl SL.out ?_; intro q2 hx2 hb2; have Q2 := Lib.hid (B2.out.trans (hb2.out.mono B2.out.size)); clear hb2 B2)
  refine (tag_lit [107, 0] (by decide) S S2.out _ _ (HT.out.below Q2.out HT.out.pos)).mono ?_
  rintro e w3 ⟨rfl, b⟩
  have B3 := Lib.hid (Q2.out.trans (b.mono Q2.out.size))
  have X3 := Lib.hid ((b.block _ (heap_lt hx2.out)).trans hx2.out)
  clear b Q2 hx2 kc
  go_wp2_with (refine wpList_store_new rfl _ _ rfl rfl rfl SL.out ?_; intro q3 hx3 hb3; have Q3 := Lib.hid (B3.out.trans (hb3.out.mono B3.out.size)); have Y3 := Lib.hid ((hb3.out.block _ (heap_lt X3.out)).trans X3.out); clear hb3 B3)
  refine (alive_true _ (HT.out.below Q3.out HT.out.pos)).mono ?_
  rintro e w4 ⟨rfl, b⟩
  have B4 := Lib.hid (Q3.out.trans (b.mono Q3.out.size))
  have X4 := Lib.hid ((b.block _ (heap_lt hx3.out)).trans hx3.out)
  have Y4 := Lib.hid ((b.block _ (heap_lt Y3.out)).trans Y3.out)
  clear b Q3 hx3 Y3
  go_wp2_with (first
    | refine wpList_load_let (by rfl) 22 _ rfl _ rfl X4.out Tryd.underlying22 (by rw [rowB_size, SL.out]; exact zero32.2) ?_
    | refine wpList_load_let (by rfl) 22 _ rfl _ rfl Y4.out Tryd.underlying22 (by rw [rowB_size, SL.out]; exact zero32.2) ?_)
  refine (same_self S SL.out _).mono ?_
  rintro e w5 ⟨rfl, b⟩
  have B5 := Lib.hid (B4.out.trans (b.mono B4.out.size))
  have X5 := Lib.hid ((b.block _ (heap_lt Y4.out)).trans Y4.out)
  clear b B4 X4 Y4
  go_wp2_with (refine wpList_load_let (by rfl) 22 _ rfl _ rfl X5.out Tryd.underlying22 (by rw [rowB_size, SL.out]; exact zero32.2) ?_)
  refine (same_zero S SL.out SZ.out _).mono ?_
  rintro e w6 ⟨rfl, b⟩
  have B6 := Lib.hid (B5.out.trans (b.mono B5.out.size))
  clear b B5 X5
  go_wp2_with fail
  go_ret
  exact ⟨rfl, B6.out⟩
end Go.Proofs.YtdaaemnfphagbaaDoor
