/-
  Sections and joins, as values and slices read them.
  Conditions: none.
-/
import Derived.Test.YthlolpflgninjaaLists
import Derived.Test.YthlolpflgninjaaRows
set_option linter.unusedVariables false
set_option linter.unusedSimpArgs false
set_option maxRecDepth 100000
namespace Go.Proofs.Ythlolpflgninjaa
open Go.ChangeShapes Go.WideShapes Go.ChangeAt Go.RowKit Go.Joins Go.Deep

abbrev Jn := Int × Int
/-- A section: its number, its point, its ends. -/
abbrev Sec := Int × Int × List Jn
def JoinR : El Jn := fun W B c x => c 0 = some (.int .i64 x.1) ∧ c 1 = some (.int .i64 x.2)
theorem joinR : Elem JoinR := ⟨fun h _ => h, fun h _ => h⟩
theorem joinR_cells {W : World} {B : Nat} (c c' : Nat → Option Value) (x : Jn) (h : ∀ k, k < 2 → c k = c' k) (hx : JoinR W B c x) : JoinR W B c' x :=
  ⟨(h 0 (by omega)).symm.trans hx.1, (h 1 (by omega)).symm.trans hx.2⟩
abbrev JoinsIn (W : World) (B : Nat) (v : Value) (l : List Jn) : Prop := ListIn 2 JoinR W B v l
def SecR : El Sec := fun W B c s => c 0 = some (.int .i64 s.1) ∧ c 1 = some (.int .i64 s.2.1) ∧ ∃ u, c 2 = some u ∧ JoinsIn W B u s.2.2
theorem secR_ : Elem SecR := ⟨fun ⟨h0, h1, u, h2, h3⟩ hb => ⟨h0, h1, u, h2, h3.below joinR hb⟩, fun ⟨h0, h1, u, h2, h3⟩ hb => ⟨h0, h1, u, h2, h3.more joinR hb⟩⟩
theorem secR_cells {W : World} {B : Nat} (c c' : Nat → Option Value) (x : Sec) (h : ∀ k, k < 3 → c k = c' k) (hx : SecR W B c x) : SecR W B c' x := by
  obtain ⟨h0, h1, u, h2, h3⟩ := hx
  exact ⟨(h 0 (by omega)).symm.trans h0, (h 1 (by omega)).symm.trans h1, u, (h 2 (by omega)).symm.trans h2, h3⟩
abbrev SectsIn (W : World) (B : Nat) (v : Value) (l : List Sec) : Prop := ListIn 3 SecR W B v l
/-- A section by value. -/
def SecV (W : World) (B : Nat) (v : Value) (s : Sec) : Prop := ∃ u, v = .agg #[.int .i64 s.1, .int .i64 s.2.1, u] ∧ JoinsIn W B u s.2.2
theorem SecV.below {W W' : World} {B : Nat} {v : Value} {s : Sec} (h : SecV W B v s) (hb : Below B W W') : SecV W' B v s := by
  obtain ⟨u, rfl, hu⟩ := h
  exact ⟨u, rfl, hu.below joinR hb⟩
theorem SecV.more {W : World} {B B' : Nat} {v : Value} {s : Sec} (h : SecV W B v s) (hb : B ≤ B') : SecV W B' v s := by
  obtain ⟨u, rfl, hu⟩ := h
  exact ⟨u, rfl, hu.more joinR hb⟩

section
variable {H : Type} {enc : TypeId × Value → H} {W : World} {base : Nat} {v : Value} {d : DataW H} {p : List MemPlace}
theorem joins_of_trod {n : Nat} {y : DataW H × List MemPlace} (h : DataW.trod enc Try.prog W 0 (fun _ => true) true n 62 [v] = some y) : ∃ l, JoinsIn W W.heap.size v l :=
  list_of_trod (sz := 2) (R := JoinR) Try.underlying62 (by kernel_rfl) (by omega) (fun n cs y ht hcl => by
    have hC3 : Try.prog.cellsOf 3 = 1 := by kernel_rfl
    match cs, hcl with
    | [c0, c1], _ =>
      obtain ⟨y0, y1, k, _, _, h0, h1⟩ := trod_struct2 Try.underlying66 ht
      simp only [hC3, List.drop_zero, List.drop_succ_cons, List.take_succ_cons, List.take_zero] at h0 h1
      obtain ⟨z0, e0, _, _⟩ := DataW.trod_int Try.underlying3 h0
      obtain ⟨z1, e1, _, _⟩ := DataW.trod_int Try.underlying3 h1
      cases e0
      cases e1
      exact ⟨(z0, z1), rfl, rfl⟩) (0, 0) (fun c c' x h hx => joinR_cells c c' x h hx) h
theorem sects_of_trod {n : Nat} {y : DataW H × List MemPlace} (h : DataW.trod enc Try.prog W 0 (fun _ => true) true n 25 [v] = some y) : ∃ l, SectsIn W W.heap.size v l :=
  list_of_trod (sz := 3) (R := SecR) Try.underlying25 (by kernel_rfl) (by omega) (fun n cs y ht hcl => by
    have hC3 : Try.prog.cellsOf 3 = 1 := by kernel_rfl
    have hC4 : Try.prog.cellsOf 62 = 1 := by kernel_rfl
    match cs, hcl with
    | [c0, c1, c2], _ =>
      obtain ⟨xs, k, _, _, _, hxl, hf⟩ := DataW.trod_struct Try.underlying64 ht
      match xs, hxl with
      | [x0, x1, x2], _ =>
        have h0 : DataW.trod enc Try.prog W 0 (fun _ => true) true k 3 (List.take (Try.prog.cellsOf 3) (List.drop 0 [c0, c1, c2])) = some x0 := hf 0 _ rfl
        have h1 : DataW.trod enc Try.prog W 0 (fun _ => true) true k 3 (List.take (Try.prog.cellsOf 3) (List.drop 1 [c0, c1, c2])) = some x1 := hf 1 _ rfl
        have h2 : DataW.trod enc Try.prog W 0 (fun _ => true) true k 62 (List.take (Try.prog.cellsOf 62) (List.drop 2 [c0, c1, c2])) = some x2 := hf 2 _ rfl
        rw [hC3] at h0 h1
        rw [hC4] at h2
        simp only [List.drop_zero, List.drop_succ_cons, List.take_succ_cons, List.take_zero] at h0 h1 h2
        obtain ⟨z0, e0, _, _⟩ := DataW.trod_int Try.underlying3 h0
        obtain ⟨z1, e1, _, _⟩ := DataW.trod_int Try.underlying3 h1
        obtain ⟨l, hl⟩ := joins_of_trod h2
        cases e0
        cases e1
        exact ⟨(z0, z1, l), rfl, rfl, c2, rfl, hl⟩) (0, 0, []) (fun c c' x h hx => secR_cells c c' x h hx) h
theorem sects_of_arg (hval : Value.okWide Try.prog W .any base 25 v) (h : DataW.Trod enc Try.prog W 0 (fun _ => true) true 25 v d p) : ∃ l, SectsIn W W.heap.size v l := by
  obtain ⟨a, len, cap, rfl⟩ := okWide_slice Try.underlying25 hval
  obtain ⟨fuel, hf⟩ := h
  exact sects_of_trod (by simpa [Value.cells] using hf)
theorem sec_of_arg (hval : Value.okWide Try.prog W .any base 64 v) (h : DataW.Trod enc Try.prog W 0 (fun _ => true) true 64 v d p) : ∃ s, SecV W W.heap.size v s := by
  obtain ⟨v0, v1, v2, y0, y1, y2, n, rfl, _, _, h0, h1, h2⟩ := open_agg3 Try.underlying64 (by kernel_rfl) (by kernel_rfl) hval h
  obtain ⟨z0, e0, _, _⟩ := DataW.trod_int Try.underlying3 h0
  obtain ⟨z1, e1, _, _⟩ := DataW.trod_int Try.underlying3 h1
  obtain ⟨l, hl⟩ := joins_of_trod h2
  cases e0
  cases e1
  exact ⟨(z0, z1, l), v2, rfl, hl⟩
end
end Go.Proofs.Ythlolpflgninjaa
