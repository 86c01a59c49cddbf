/-
  A record's sector, filled by the program.
  Conditions: its piece of the record has at most 118 bytes.
-/
import Derived.Test.YtdjoflhcagfmiaaSlotPut
import Derived.Test.YtdjoflhcagfmiaaCrcEach
import Derived.Laws.CopyOwn
set_option linter.unusedVariables false
set_option linter.unusedSimpArgs false
set_option maxRecDepth 100000
namespace Go.Proofs.Ytdjoflhcagfmiaa
open Go.RowKit

theorem zero128 : (∀ w, (zeroValue 77).run Try.prog w = .ok (.agg (Array.replicate 128 (.int .u8 0))) w) ∧ (Try.prog.info? 77).map (·.size) = some 128 := zero_of_info (by kernel_rfl)
theorem splice_u8 (zs xs : Bs) (off : Nat) : (splice (zs.map u8) off (xs.map u8)).toArray = rowB (putB zs off xs) := by
  simp [splice, rowB, putB]
theorem putB_mid (pre rest xs : Bs) (off : Nat) (h : off = pre.length) : putB (pre ++ rest) off xs = pre ++ xs ++ rest.drop xs.length := by
  subst h
  rw [putB, List.take_left, List.drop_append, List.drop_eq_nil_of_le (by omega), List.nil_append]
  congr 1
  congr 1
  omega
theorem fill_steps (g i n : Nat) (p : Bs) (h : p.length ≤ 118) :
    putB (putB (putB (putB (putB (List.replicate 128 0) 0 (le 4 g)) 4 (le 1 i)) 5 (le 1 n)) 6 p) 124 (le 4 g) = secP g i n p := by
  have e0 : (List.replicate 128 (0 : UInt8)) = [] ++ List.replicate 128 0 := rfl
  rw [e0, putB_mid _ _ _ 0 rfl, le_length, List.drop_replicate, List.nil_append,
    putB_mid _ _ _ 4 (by rw [le_length]), le_length, List.drop_replicate,
    putB_mid _ _ _ 5 (by simp [le_length]), le_length, List.drop_replicate,
    putB_mid _ _ _ 6 (by simp [le_length]), List.drop_replicate,
    show 128 - 4 - 1 - 1 - p.length = (118 - p.length) + 4 from by omega, ← List.replicate_append_replicate, ← List.append_assoc,
    putB_mid _ _ _ 124 (by simp [le_length]; omega), le_length, List.drop_replicate]
  simp [secP, le, padB]
theorem Txt.src {W : World} {B : Nat} {A : Option Addr} {cap : Nat} {xs : Bs} (h : Txt W B (.slice A xs.length cap) xs) (hp : 0 < (xs.map u8).length) :
    ∃ ad, A = some ad ∧ ∀ j v, (xs.map u8)[j]? = some v → W.cell? (ad.add j) = some v := by
  obtain ⟨A', c', e, h1, h2, hn, h3⟩ := id h
  cases e
  obtain ⟨b, off, rfl, _, _⟩ := h3 (by simpa using hp)
  exact ⟨_, rfl, h.cells⟩
theorem int_word {n : Nat} (h : n < 4294967296) : (n : Int) % 4294967296 = n := by omega

theorem boxes3 (w : World) (a b c : Obj) : ∃ q, q = ((w.alloc a).alloc b).alloc c ∧ q.heap[w.heap.size]? = some a ∧ q.heap[w.heap.size + 1]? = some b ∧ q.heap[w.heap.size + 1 + 1]? = some c ∧ q.heap.size = w.heap.size + 3 ∧ Below w.heap.size w q := by
  refine ⟨_, rfl, ?_, ?_, ?_, by simp, (((Below.refl _ w).alloc (Nat.le_refl _) _).alloc (by simp) _).alloc (by simp; omega) _⟩
  · rw [heap_alloc_lt _ _ (by simp; omega), heap_alloc_lt _ _ (by simp)]; exact heap_alloc_self _ _
  · rw [heap_alloc_lt _ _ (by simp)]
    have := heap_alloc_self (w.alloc a) b
    simpa using this
  · have := heap_alloc_self ((w.alloc a).alloc b) c
    simpa using this

set_option maxHeartbeats 2000000 in
theorem sfilled_any (g i n : Nat) (p : Bs) (v : Value) (w : World) (hg : g < 4294967296) (hi : i < 256) (hn : n < 256) (hp : p.length ≤ 118) (h : Txt w w.heap.size v p) :
    Calls Try.prog 61 #[.int .u32 g, .int .i64 i, .int .i64 n, v] w fun e w' => e = .returned (.agg (rowB (secP g i n p))) ∧ Below w.heap.size w w' := by
  have hz := zero128.1
  have ei := int_word (n := i) (by omega)
  have en := int_word (n := n) (by omega)
  have X := Lib.hid h
  have HG := Lib.hid hg
  have HI := Lib.hid hi
  have HN := Lib.hid hn
  have HP := Lib.hid hp
  obtain ⟨A3, c3, rfl, -, -, -, -⟩ := h
  clear hg hi hn hp
  go_enter Try.func61, Try.ntmps61
  go_wp2_with (refine (putter_made _ _ _ _).mono ?_; rintro e w1 ⟨rfl, rfl⟩)
  obtain ⟨q, hq, q0, q1, q2, qs, qb⟩ := boxes3 w (.cells (Array.replicate 128 (.int .u8 0)) 77) (.cells (Array.replicate 128 (.int .u8 0)) 77) (.cells #[.slice (some ⟨w.heap.size + 1, 0, none⟩) 128 128] 34)
  rw [← hq]
  have Q0 := Lib.hid q0
  have QB := Lib.hid qb
  have QS := Lib.hid qs
  have hp0 : PutAt q (w.heap.size + 1 + 1) (w.heap.size + 1) 0 128 (List.replicate 128 0) 77 := ⟨by simp, ⟨0, q2, fun _ => rfl⟩, by rw [rowB_zero]; exact q1⟩
  clear hq q0 q1 q2 qb qs hz
  refine (put1_any (w.heap.size + 1 + 1) (w.heap.size + 1) 0 128 g 4 _ _ q HG.out (by omega) (by omega) (by omega) hp0).mono ?_
  rintro e q1 ⟨⟨y1, rfl⟩, hp1, ho1⟩
  clear hp0
  go_wp2_with fail
  refine (put1_any (w.heap.size + 1 + 1) (w.heap.size + 1) (0 + 4) (128 - 4) i 1 _ _ q1 (by have := HI.out; omega) (by omega) (by omega) (by omega) hp1).mono ?_
  rintro e q2 ⟨⟨y2, rfl⟩, hp2, ho2⟩
  clear hp1
  go_wp2_with fail
  refine (put1_any (w.heap.size + 1 + 1) (w.heap.size + 1) (0 + 4 + 1) (128 - 4 - 1) n 1 _ _ q2 (by have := HN.out; omega) (by omega) (by omega) (by omega) hp2).mono ?_
  rintro e q3 ⟨⟨y3, rfl⟩, hp3, ho3⟩
  clear hp2
  have H3 := Lib.hid hp3.2.2
  have O3 := Lib.hid (ho1.trans (ho2.trans ho3))
  have B3 : Hid (Below w.heap.size w q3) := Lib.hid (QB.out.trans (O3.out.below (by omega) (by omega) (by have := QS.out; omega)))
  have S3 : Hid (q3.heap.size = w.heap.size + 3) := Lib.hid (O3.out.size.trans QS.out)
  have R3 := Lib.hid ((O3.out.block w.heap.size (by omega) (by omega)).trans Q0.out)
  clear hp3 ho1 ho2 ho3
  obtain ⟨L3, hL3⟩ : ∃ L, L = (putB (putB (putB (List.replicate 128 0) 0 (le 4 g)) (0 + 4) (le 1 i)) (0 + 4 + 1) (le 1 n)) := ⟨_, rfl⟩
  have LL3 : Hid (L3.length = 128) := Lib.hid (by rw [hL3, putB_length, putB_length, putB_length] <;> simp [le_length, putB_length])
  rw [← hL3] at H3
  have XP := Lib.hid (X.out.below B3.out)
  go_wp2_with (refine wpList_copy_splice (o := ⟨some 26, _, _, _, _, _⟩) rfl (.tmp 24) (.tmp 25) _ _ rfl 5 Try.underlying34 infoByteSize _ _ _ _ p.length c3 rfl rfl (w.heap.size + 1) 6 (L3.map u8) 77 H3.out (p.map u8) (by have := HP.out; rw [List.length_map]; exact (Nat.min_eq_left (by omega)).symm) (fun hp => ⟨rfl, XP.out.src hp⟩) (by have := HP.out; have := LL3.out; rw [List.length_map, List.length_map]; omega) (u8s_oneCell p) (w.heap.size + 1) q3 (Below.refl _ _) (Nat.le_refl _) ?_; intro w4 hg4 hb4)
  have hg5 := hg4.out
  rw [splice_u8] at hg5
  have R4 := Lib.hid ((hb4.block w.heap.size (by omega)).trans R3.out)
  have B4 := Lib.hid (B3.out.trans (hb4.mono (by omega)))
  have L4 := Lib.hid hb4.size
  have G4 := Lib.hid hg5
  clear hg4 hg5 hb4
  go_wp2_with (refine (putter_made _ _ _ _).mono ?_; rintro e w5 ⟨rfl, rfl⟩)
  have hM : w.heap.size + 1 < w4.heap.size := by have := L4.out; have := S3.out; omega
  have k1 := heap_alloc_self w4 (.cells #[.slice (some ⟨w.heap.size + 1, 124, none⟩) 4 4] 34)
  have k2 := (heap_alloc_lt w4 (.cells #[.slice (some ⟨w.heap.size + 1, 124, none⟩) 4 4] 34) hM).trans G4.out
  have k3 := (heap_alloc_lt w4 (.cells #[.slice (some ⟨w.heap.size + 1, 124, none⟩) 4 4] 34) (by omega)).trans R4.out
  have k4 := B4.out.alloc B4.out.size (.cells #[.slice (some ⟨w.heap.size + 1, 124, none⟩) 4 4] 34)
  have k5 := heap_alloc_size w4 (.cells #[.slice (some ⟨w.heap.size + 1, 124, none⟩) 4 4] 34)
  generalize w4.alloc (.cells #[.slice (some ⟨w.heap.size + 1, 124, none⟩) 4 4] 34) = q5 at k1 k2 k3 k4 k5 ⊢
  have L6 : (putB L3 6 p).length = 128 := by rw [putB_length (by have := LL3.out; have := HP.out; omega)]; exact LL3.out
  have hp5 : PutAt q5 w4.heap.size (w.heap.size + 1) 124 4 (putB L3 6 p) 77 := ⟨by omega, ⟨124, k1, fun _ => rfl⟩, k2⟩
  have K3 := Lib.hid k3
  have K4 := Lib.hid k4
  have K5 := Lib.hid k5
  have HM := Lib.hid hM
  clear k1 k2 k3 k4 k5 hM L6
  refine (put1_any w4.heap.size (w.heap.size + 1) 124 4 g 4 _ _ q5 HG.out (by omega) (by omega) (by have := HM.out; omega) hp5).mono ?_
  rintro e q6 ⟨⟨y6, rfl⟩, hp6, ho6⟩
  clear hp5
  have h6 := hp6.2.2
  rw [hL3, show 0 + 4 = 4 from rfl, show 4 + 1 = 5 from rfl, fill_steps g i n p HP.out] at h6
  have H6 := Lib.hid h6
  have R6 := Lib.hid ((ho6.block w.heap.size (by have := HM.out; omega) (by omega)).trans K3.out)
  have B6 : Hid (Below w.heap.size w q6) := Lib.hid (K4.out.trans (ho6.below (by have := HM.out; omega) (by omega) (by have := K5.out; have := HM.out; omega)))
  have SL := Lib.hid (secP_length (g := g) (i := i) (n := n) HP.out)
  generalize hsec : secP g i n p = sec at H6 SL ⊢
  clear hp6 ho6 h6 hL3
  go_wp2_with (first
    | (refine wpList_load_row rfl 77 _ rfl (w.heap.size + 1) rfl H6.out Try.underlying77 (by rw [rowB_size, SL.out]; exact zero128.2) ?_)
    | (refine wpList_store_row rfl 77 _ _ rfl w.heap.size rfl rfl R6.out (by rw [rowB_size, SL.out]; exact zero128.2) (by rw [rowB_size, SL.out]; simp) (rowB_one _) ?_))
  refine bodyPost_ret (v := .agg (rowB sec)) ?_ rfl ⟨by rw [hsec], below_setRow B6.out (Nat.le_refl _) _⟩
  exact results_cell_row rfl _ _ w.heap.size _ _ (0, 0) _ rfl (setRow_heap _ _ _ _ _ _ R6.out) Try.underlying77 rfl (by rw [rowB_size, SL.out]; exact zero128.2)
end Go.Proofs.Ytdjoflhcagfmiaa
