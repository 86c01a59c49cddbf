/-
  The number that bytes have, as the program reads it.
  Conditions: at most four bytes.
-/
import Derived.Test.YtdjoflhcagfmiaaSlotIter
import Derived.Test.YtdjoflhcagfmiaaDevCome0
import Derived.Laws.BitsAllLaws
set_option linter.unusedVariables false
set_option linter.unusedSimpArgs false
set_option maxRecDepth 100000
namespace Go.Proofs.Ytdjoflhcagfmiaa
open Go.RowKit Go.Shelf

attribute [local go_sem] Oper.semAt_some

theorem back_made (A : Option Addr) (n c : Nat) (w : World) :
    Calls Try.prog 62 #[.slice A n c] w fun e w' => e = .returned (.func (.func 88) #[] #[.pointer (some ⟨w.heap.size, 0, none⟩)]) ∧ w' = w.alloc (.cells #[.slice A n c] 34) := by
  have hmf : ∀ (fn : Fn) (first cap : Array Value) (w : World), (Instr.makeFunc fn first cap).run Try.prog w = .ok (.func fn first cap) w := fun _ _ _ _ => rfl
  go_enter Try.func62, Try.ntmps62
  go_wp2
  go_ret
  exact ⟨rfl, rfl⟩
theorem leN_pre (pre : List (Nat × UInt8)) (x : Nat × UInt8) : leN ((pre ++ [x]).map (·.2)).reverse = x.2.toNat + 256 * leN (pre.map (·.2)).reverse := by
  rw [List.map_append, List.map_cons, List.map_nil, List.reverse_append]; rfl
theorem leN_short {pre : List (Nat × UInt8)} (h : pre.length < 4) : leN (pre.map (·.2)).reverse < 16777216 := by
  have h1 := leN_lt (pre.map (·.2)).reverse
  rw [List.length_reverse, List.length_map] at h1
  exact Nat.lt_of_lt_of_le h1 (Nat.pow_le_pow_right (n := 256) (by omega) (by omega : pre.length ≤ 3))

theorem shl_or8 {n x : Nat} (hn : n < 16777216) (hx : x < 256) : (n * 256) ||| x = x + 256 * n := by
  have h := Nat.two_pow_add_eq_or_of_lt (i := 8) (b := x) (by omega) n
  rw [show n * 256 = 2 ^ 8 * n from by omega, ← h]; omega

set_option maxHeartbeats 2000000 in
theorem snum_any (v : Value) (xs : Bs) (w : World) (hx : Txt w w.heap.size v xs) (hl : xs.length ≤ 4) :
    Calls Try.prog 38 #[v] w fun e w' => e = .returned (.int .u32 (leN xs : Nat)) ∧ Below w.heap.size w w' := by
  have X := Lib.hid hx
  have HL := Lib.hid hl
  obtain ⟨A, cap, rfl, -, -, -, -⟩ := hx
  clear hl
  refine (callsIn_wide (n := 3)).1 ?_
  refine callsIn_of_wp_marks Try.func38 rfl trivial ?_ rfl
  simp only [Try.ntmps38, List.size_toArray, List.length_cons, List.length_nil, Nat.reduceAdd, Nat.reduceSub, Array.replicate_succ, Array.replicate_zero, List.push_toArray, List.append_toArray, List.nil_append, List.cons_append]
  gi_wp2_with fail
  have hq1 := heap_alloc_self w (.cells #[.int .u32 0] 33)
  have hqb := below_new w (.cells #[.int .u32 0] 33)
  generalize w.alloc (.cells #[.int .u32 0] 33) = q at hq1 hqb ⊢
  refine ⟨trivial, ?_⟩
  refine (callsIn_wide.2 (back_made A xs.length cap q)).mono ?_
  rintro e w2 ⟨rfl, he2⟩
  have hBW : Boxed w2 q.heap.size 34 (.slice A xs.length cap) := by rw [he2]; exact Boxed.new q _ _
  have hb2 : Below q.heap.size q w2 := by rw [he2]; exact below_new _ _
  clear he2
  have QB := Lib.hid hqb
  have B2 := Lib.hid (hqb.trans (hb2.mono hqb.size))
  have N2 : Hid (Boxed w2 w.heap.size 33 (.int .u32 0)) := Lib.hid ((hb2.block _ (heap_lt hq1)).trans hq1)
  have LW : Hid (w.heap.size < q.heap.size ∧ q.heap.size < w2.heap.size) := Lib.hid ⟨heap_lt hq1, hBW.lt⟩
  clear hq1 hqb hb2
  gi_wp2_with fail
  refine wpIn_rangeFunc_ownF rfl (by omega) (gf := 88) (lb := #[.pointer (some ⟨q.heap.size, 0, none⟩)]) rfl trivial (enters_of Try.func88 (by kernel_rfl) rfl)
    (encs := encK) (Kp := KeepB w.heap.size) (S := fun xs' : List (Nat × UInt8) => xs'.map (·.2) = xs.reverse) (Sp := fun _ => True) (N := xs.length) (w0 := w2)
    (fun l J Jx W hW hJ hJx hY h0 => back1_whole 2 (by omega) l q.heap.size w.heap.size w2 xs _ (X.out.below B2.out) (by have := HL.out; omega) J Jx W hJ hY (by have := hW.size; have := LW.out; omega) (hW.mono (by have := LW.out; omega)) ((hW.block _ hBW.lt).trans hBW) h0)
    KeepB.trans (fun W l o o' hl h ho _ => KeepB.putObj W l o o' (by have := LW.out; omega) h ho) (Below.refl _ _) (fun _ => rfl)
    (fun pre W => Boxed W w.heap.size 33 (.int .u32 (leN (pre.map (·.2)).reverse : Nat)) ∧ Below w.heap.size w2 W)
    (fun _ _ _ => False)
    (OwnFrom.and (fun s W W' row (h : W.heap[w.heap.size]? = _) hg hr => heap_turned h hg (fun r e => (hr r e).2)) (ownFrom_below (by have := LW.out; omega) (by have := LW.out; omega)))
    (fun _ _ _ _ _ hs _ _ => hs)
    ⟨N2.out, Below.refl _ _⟩
    (fun x => { tmps := #[.slice A xs.length cap, undef, .int .u32 0, .pointer (some ⟨w.heap.size, 0, none⟩), undef, .int .u8 (x.2.toNat : Int), .slice A xs.length cap, .func (.func 88) #[] #[.pointer (some ⟨q.heap.size, 0, none⟩)], .int .i64 x.1, .int .u8 (x.2.toNat : Int), undef, undef, undef, undef, undef, undef], defers := [] }) ?assign ?body ?done ?stop
  case assign =>
    intro l x W K hK
    dsimp only [encK]
    gi_wp2
    exact hK
  case body =>
    rintro l pre x W ⟨hn, hB⟩ hlt
    have hc := hn.cell
    have hf := hn.frozen
    have hs := leN_short (pre := pre) (by have := HL.out; omega)
    have hp := leN_pre pre x
    generalize leN (pre.map (·.2)).reverse = N at *
    have hx8 := UInt8.toNat_lt x.2
    gi_wp2
    have hv : bits .or .u32 ((N : Int) * 256) (x.2.toNat : Int) = ((x.2.toNat + 256 * N : Nat) : Int) := by
      have h := shl_or8 hs hx8
      have h2 := u32_or_nat (N * 256) x.2.toNat (by omega) (by omega)
      rw [h] at h2
      rw [← h2]
      congr 1
    rw [hv, ← hp]
    exact ⟨KeepsOthers.setCell W _ _, ⟨(Below.refl _ _).setCell (p := ⟨w.heap.size, 0, none⟩) (Nat.le_refl _) _, fun bn t v ht hb => hb.kept (grownBy_setCell' W w.heap.size _) (fun e => by
      obtain rfl : bn = w.heap.size := by simpa using e
      have h1 : W.heap[w.heap.size]? = _ := hb
      have h2 : W.heap[w.heap.size]? = _ := hn
      rw [h1] at h2
      cases h2
      rcases ht with h | h <;> exact absurd h (by decide))⟩, hn.set _, hB.setCell (p := ⟨w.heap.size, 0, none⟩) (Nat.le_refl _) _⟩
  case done =>
    rintro D xs' W hD hS ⟨hn, hB⟩ hK
    rw [hS, List.reverse_reverse] at hn
    have hc := hn.cell
    gi_wp2
    refine ⟨by simp, .inl ⟨_, _, rfl, run_takeDeferred hK, ?_⟩⟩
    refine ⟨_, results_tmp rfl _ _ _, rfl, ?_⟩
    exact B2.out.trans (hB.trans ((Below.refl _ _).grown (grownBy_putObj' W D (.deferred none)) (by have := (Nat.le_trans B2.out.size hB.size); exact this) (fun k hk => by cases hk; have := LW.out; omega)))
  case stop =>
    rintro D c pre W _ _ h _
    exact h.elim
end Go.Proofs.Ytdjoflhcagfmiaa
