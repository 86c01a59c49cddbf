/-
  What the program's Unwrap answers where the bytes are there: they, in memory of the call's own, and the place behind them.
  Conditions: the bytes can be read as a slice.
-/
import Derived.Test.YthlohfiidogiiaaWrap
import Derived.Laws.CopyOwn
set_option linter.unusedVariables false
set_option linter.unusedSimpArgs false
namespace Go.Proofs.Ythlohfiidogiiaa
open Go.RowKit Go.Shelf

/-- A row known whole is a row of the call's own. -/
theorem owns_of_block {w : World} {g e n base : Nat} {cs : List Value} (hg : w.heap[g]? = some (.cells cs.toArray e (0, 0))) (hn : cs.length = n) (hb : base ≤ g) (hm : n ≤ maxLen) : w.ownsRow base e 1 (.slice (some ⟨g, 0, none⟩) n n) n cs :=
  ⟨by omega, .inr ⟨g, n, cs.toArray, rfl, hb, hg, Nat.le_refl _, hm, by simp [hn], by simp [← hn]⟩⟩

theorem made_u8 (n : Nat) : (madeCells (Value.int .u8 0).cells (n * 1)).toList.length = n := by
  simp [madeCells, Value.cells]

theorem block_of_owns {w : World} {base e g n : Nat} {cs : List Value} (h : w.ownsRow base e 1 (.slice (some ⟨g, 0, none⟩) n n) n cs) : w.heap[g]? = some (.cells cs.toArray e (0, 0)) := by
  rcases h.2 with ⟨hv, _⟩ | ⟨g', cap, cur, hv, _, hg, _, _, hs, ht⟩
  · cases hv
  · cases hv
    rw [hg, ← ht, List.take_of_length_le (by simpa using Nat.le_of_eq hs)]
theorem splice_all {L cs : List Value} (h : L.length = cs.length) : splice L 0 cs = cs := by
  simp [splice, ← h]
theorem Txt.cells_at {W : World} {B : Nat} {A : Option Addr} {m c n : Nat} {ys : List UInt8} (h : Txt W B (.slice A m c) ys) (hp : 0 < ((ys.take n).map u8).length) : ∃ ad, A = some ad ∧ ∀ j v, ((ys.take n).map u8)[j]? = some v → W.cell? (ad.add j) = some v := by
  obtain ⟨A', cap', e, _, _, _, h3⟩ := id h
  cases e
  simp only [List.length_map, List.length_take] at hp
  obtain ⟨b, off, rfl, _, _⟩ := h3 (by omega)
  refine ⟨_, rfl, fun j v hj => h.cells j v ?_⟩
  obtain ⟨hlt, he⟩ := List.getElem?_eq_some_iff.1 hj
  simp only [List.length_map, List.length_take] at hlt
  rw [List.getElem?_eq_getElem (by rw [List.length_map]; omega), ← he]
  simp
theorem sizeByte : (Try.prog.info? 5).map (·.size) = some 1 := by kernel_rfl

set_option maxHeartbeats 400000 in
theorem unwrap_ok (v : Value) (xs : List UInt8) (k y n s : Nat) (w : World) (hx : Txt w w.heap.size v xs) (h : k ≤ xs.length) (hy : y ≤ 65536) (hs : scan 0 0 ((xs.drop k).take 5) = (n, s)) (hz : 0 < s) (hn : n ≤ y) (hn2 : k + s + n ≤ xs.length) :
    Calls Try.prog 11 #[v, .int .i64 k, .int .i64 y] w fun e W' => ∃ u, e = .returned (.tuple #[u, .int .i64 ((k : Int) + s + n), .int .i64 0]) ∧ W'.ownsRow w.heap.size 5 1 u n (((xs.drop (k + s)).take n).map u8) ∧ Below w.heap.size w W' := by
  obtain ⟨i0, hi, hz0, hz1, hz2⟩ := info_parts infoByte
  have hg := get_ok v xs k n s w hx h hs hz (by omega)
  have hle := hx.le
  unfold maxLen at hle
  obtain ⟨A, cap, rfl, hc1, hc2, _, _⟩ := id hx
  unfold maxLen at hc2
  have hlt : ¬ (xs.length : Int) - ((k : Int) + s) < n := by omega
  clear hs
  have hnone : ∀ (j : Nat), (none : Option Nat) = some j → w.heap.size ≤ j := fun j e => by cases e
  by_cases hck : cap = k + s
  · obtain rfl : n = 0 := by omega
    subst hck
    have HX := Lib.hid (hx.from_eq (k := k + s) (by omega))
    have HG := Lib.hid hg
    clear hx hg
    go_enter Try.func11, Try.ntmps11
    go_wp2_with (first
      | (go_at_call 9; go_must (refine HG.out.mono ?_; rintro e w' ⟨rfl, hb⟩; have HB := Lib.hid hb; have hbs := hb.size; clear hb))
      | (at_make; go_must (refine wpList_make_full _ rfl (.tmp 46) (.tmp 46) _ rfl w.heap.size 5 i0 (.int .u8 0) 1 Try.underlying25 hi hz0 hz1 .i64 .i64 _ _ 0 rfl rfl rfl rfl (by omega) (by unfold maxLen; omega) hbs ?_; intro w1 hown hgrow; have HO := Lib.hid hown; have HW := Lib.hid hgrow; clear hown hgrow))
      | (with_reducible refine wpList_copy_splice (o := ⟨some 52, _, _, _, _, _⟩) rfl (.tmp 48) (.tmp 51) 25 25 rfl 5 ?c1 ?c2 (some ⟨w'.heap.size, 0, none⟩) (A) 0 0 (0) (0) ?c3 ?c4 w'.heap.size 0 (madeCells (Value.int .u8 0).cells (0 * 1)).toList 5 ?c5 (((xs.drop (k + s)).take 0).map u8) ?c6 ?c7 ?c8 ?c9 w.heap.size w ?c10 ?c11 ?c12
         go_must (
         case c1 => exact Try.underlying25
         case c2 => exact sizeByte
         case c3 => rfl
         case c4 => simp [go_sem]; omega
         case c5 => exact block_of_owns HO.out
         case c6 => simp
         case c7 => exact fun hp => absurd hp (by simp)
         case c8 => rw [made_u8 0]; simp
         case c9 => exact u8s_oneCell _
         case c10 => exact HB.out.grown HW.out hbs hnone
         case c11 => exact hbs
         intro w2 hsp hb2
         have HB2 := Lib.hid hb2
         clear hb2)))
    go_ret3
    have hm := made_u8 0
    rw [splice_all (by simpa using hm)] at hsp
    exact ⟨_, rfl, owns_of_block hsp.out (by simp) hbs (Nat.zero_le _), HB2.out⟩
  · have HX := Lib.hid (hx.from_ne (k := k + s) (by omega))
    have hcl := fun W1 (hb : Below w.heap.size w W1) hp => (HX.out.below hb).cells_at (n := n) hp
    have HC := Lib.hid hcl
    clear hcl
    have HG := Lib.hid hg
    clear hx hg
    go_enter Try.func11, Try.ntmps11
    go_wp2_with (first
      | (go_at_call 9; go_must (refine HG.out.mono ?_; rintro e w' ⟨rfl, hb⟩; have HB := Lib.hid hb; have hbs := hb.size; clear hb))
      | (at_make; go_must (refine wpList_make_full _ rfl (.tmp 46) (.tmp 46) _ rfl w.heap.size 5 i0 (.int .u8 0) 1 Try.underlying25 hi hz0 hz1 .i64 .i64 _ _ n rfl rfl rfl rfl (by rw [hz2]; omega) (by unfold maxLen; omega) hbs ?_; intro w1 hown hgrow; have HO := Lib.hid hown; have HW := Lib.hid hgrow; clear hown hgrow))
      | (with_reducible refine wpList_copy_splice (o := ⟨some 52, _, _, _, _, _⟩) rfl (.tmp 48) (.tmp 51) 25 25 rfl 5 ?d1 ?d2 (some ⟨w'.heap.size, 0, none⟩) (A.map (·.add (k + s))) n n (xs.length - (k + s)) (cap - (k + s)) ?d3 ?d4 w'.heap.size 0 (madeCells (Value.int .u8 0).cells (n * 1)).toList 5 ?d5 (((xs.drop (k + s)).take n).map u8) ?d6 ?d7 ?d8 ?d9 w.heap.size w ?d10 ?d11 ?d12
         go_must (
         case d1 => exact Try.underlying25
         case d2 => exact sizeByte
         case d3 => rfl
         case d4 => simp [go_sem]
         case d5 => exact block_of_owns HO.out
         case d6 => simp only [List.length_map, List.length_take, List.length_drop]; exact Nat.min_comm _ _
         case d7 => exact fun hp => ⟨rfl, HC.out _ (HB.out.grown HW.out hbs hnone) hp⟩
         case d8 => rw [made_u8 n, List.length_map, List.length_take]; omega
         case d9 => exact u8s_oneCell _
         case d10 => exact HB.out.grown HW.out hbs hnone
         case d11 => exact hbs
         intro w2 hsp hb2
         have HB2 := Lib.hid hb2
         clear hb2)))
    go_ret3
    have hm := made_u8 n
    have hl : (((xs.drop (k + s)).take n).map u8).length = n := by simp; omega
    rw [splice_all (by rw [hm, hl])] at hsp
    exact ⟨_, rfl, owns_of_block hsp.out hl hbs (by unfold maxLen; omega), HB2.out⟩
end Go.Proofs.Ythlohfiidogiiaa
