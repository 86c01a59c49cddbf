/-
 Packages: a plan's text, and behind it its tag; what writing and reading one answers.
 Conditions: none.
-/
import Derived.Test.YteloiajocjahmaaDoorSGPckP
import Derived.Test.YteloiajocjahmaaDoorSGHmac
import Derived.Test.YteloiajocjahmaaDoorSGPlnRefD
import Derived.Test.YteloiajocjahmaaDoorSGTxt
import Derived.Lib.SlBytesConst
set_option linter.unusedVariables false
set_option linter.unusedSimpArgs false
set_option maxRecDepth 100000
namespace Go.Proofs.YteloiajocjahmaaDoor
open Go.RowKit

def packL (key : List UInt8) (p : Pl) : List UInt8 := textL p ++ tagL key (textL p)
noncomputable def writeE (key : List UInt8) (p : Pl) : Int := if 64 < key.length then 3 else textE p
noncomputable def writeV (key : List UInt8) (p : Pl) : List UInt8 := if writeE key p = 0 then packL key p else []
noncomputable def readE (key b : List UInt8) : Int := if 64 < key.length ∨ 2048 < b.length then 3 else if b.length < 32 then 8 else if tagL key (b.take (b.length - 32)) ≠ b.drop (b.length - 32) then 120 else parseE (b.take (b.length - 32))
noncomputable def readP (key b : List UInt8) : Pl := if readE key b = 0 then parseP (b.take (b.length - 32)) else zPl
theorem packL_len (key : List UInt8) {p : Pl} (h : PlanMay p) : (packL key p).length = (textL p).length + 32 ∧ (packL key p).length ≤ 642 := by
 have h1 := text_len h
 rw [packL, List.length_append, tagL_length]
 omega
theorem write_cases (key : List UInt8) (p : Pl) : (key.length ≤ 64 ∧ PlanMay p ∧ writeE key p = 0 ∧ writeV key p = packL key p) ∨ (writeE key p ≠ 0 ∧ writeV key p = []) := by
 by_cases h : 64 < key.length
 ·have e : writeE key p = 3 := by rw [writeE, if_pos h]
  exact .inr ⟨by rw [e]; decide, by rw [writeV, e]; rfl⟩
 ·rcases text_cases p with ⟨h1, h2, -⟩ | ⟨-, h2, -⟩
  ·have e : writeE key p = 0 := by rw [writeE, if_neg h, h2]
   exact .inl ⟨by omega, h1, e, by rw [writeV, if_pos e]⟩
  ·have e : writeE key p = 8 := by rw [writeE, if_neg h, h2]
   exact .inr ⟨by rw [e]; decide, by rw [writeV, e]; rfl⟩
theorem pack_parts (x y : List UInt8) (h : y.length = 32) : (x ++ y).take ((x ++ y).length - 32) = x ∧ (x ++ y).drop ((x ++ y).length - 32) = y := by
 have e : (x ++ y).length - 32 = x.length := by rw [List.length_append]; omega
 rw [e]
 exact ⟨List.take_left' rfl, List.drop_left' rfl⟩
theorem read_pack {key : List UInt8} {p : Pl} (hk : key.length ≤ 64) (h : PlanMay p) : readE key (packL key p) = 0 ∧ readP key (packL key p) = p := by
 obtain ⟨h1, h2⟩ := packL_len key h
 obtain ⟨h3, h4⟩ := pack_parts (textL p) (tagL key (textL p)) (tagL_length _ _)
 obtain ⟨h5, h6⟩ := parse_text h
 have h3' : (packL key p).take ((packL key p).length - 32) = textL p := h3
 have h4' : (packL key p).drop ((packL key p).length - 32) = tagL key (textL p) := h4
 have e : readE key (packL key p) = 0 := by
  rw [readE, if_neg (by omega), if_neg (by omega), h3', h4', if_neg (by simp), h5]
 exact ⟨e, by rw [readP, if_pos e, h3', h6]⟩
theorem read_zero {key b : List UInt8} (h : readE key b = 0) : key.length ≤ 64 ∧ PlanMay (readP key b) ∧ b = packL key (readP key b) := by
 have h0 := h
 rw [readE] at h
 split at h
 ·cases h
 ·rename_i h1
  split at h
  ·cases h
  ·rename_i h2
   split at h
   ·cases h
   ·rename_i h3
    obtain ⟨h4, h5⟩ := parse_zero h
    have e : readP key b = parseP (b.take (b.length - 32)) := by rw [readP, if_pos h0]
    have h6 : tagL key (b.take (b.length - 32)) = b.drop (b.length - 32) := Classical.not_not.1 h3
    refine ⟨by omega, by rw [e]; exact h4, ?_⟩
    rw [packL, e, h5, h6, List.take_append_drop]
theorem read_not {key b : List UInt8} (h : readE key b ≠ 0) : readP key b = zPl := by rw [readP, if_neg h]
/-- What the program's package pack answers of packages, where the program's constants are laid. -/
structure PckKey : Prop where
 write : ∀ (v y : Value) (key : List UInt8) (p : Pl) (w : World), Tab w → Txt w w.heap.size v key → PlanV w w.heap.size y p →
  Calls Tryd.prog 9 #[v, y] w fun e w' => ∃ u, e = .returned (.tuple #[u, .int .i64 (writeE key p)]) ∧ TxtOwn w' w.heap.size u (writeV key p) ∧ Below w.heap.size w w'
 read : ∀ (v y : Value) (key b : List UInt8) (w : World), Tab w → Txt w w.heap.size v key → Txt w w.heap.size y b → b.length ≤ 10000 →
  Calls Tryd.prog 10 #[v, y] w fun e w' => ∃ u2 u3 u4 u5, e = .returned (.tuple #[.agg #[.int .i64 (readP key b).ver, .int .i64 (readP key b).par, u2, u3, u4, u5], .int .i64 (readE key b)]) ∧ PlOwn w' w.heap.size u2 u3 u4 u5 (readP key b) ∧ Below w.heap.size w w'

theorem text_one : textL planOne = [2, 1, 3, 1, 0, 2, 0, 0, 0, 2, 5, 1, 0, 3, 0, 3, 1, 3, 0, 2, 1, 2, 2, 1, 5, 2, 1, 4, 1, 0, 1, 8, 4, 0, 2, 2, 3, 0, 0, 3] := by
 rw [textL, show numsP planOne = [2, 1, 3, 1, 0, 2, 0, 0, 0, 2, 5, 1, 0, 3, 0, 3, 1, 3, 0, 2, 1, 2, 2, 1, 5, 2, 1, 4, 1, 0, 1, 8, 4, 0, 2, 2, 3, 0, 0, 3] from rfl]
 simp only [putL_cons, putL_nil]
 simp [bytesOf]
set_option maxHeartbeats 8000000 in
theorem one12_at (w : World) : Calls Tryd.prog 8 #[] w fun e w' => ∃ s, e = .returned (oneV 1 s) ∧ OneAt w' s (some ⟨s + 6, 0, none⟩) 3 ∧ w'.heap[s + 6]? = some (.cells #[.int .i64 2, .int .i64 3] 3 (0, 0)) ∧ w.heap.size < s ∧ Below w.heap.size w w' := by
 have hq0 := heap_alloc_self w (.cells #[.int .i64 0, .int .i64 0, .slice none 0 0, .slice none 0 0, .slice none 0 0, .slice none 0 0] 31)
 have hqb := below_new w (.cells #[.int .i64 0, .int .i64 0, .slice none 0 0, .slice none 0 0, .slice none 0 0, .slice none 0 0] 31)
 have hqs := heap_alloc_size w (.cells #[.int .i64 0, .int .i64 0, .slice none 0 0, .slice none 0 0, .slice none 0 0, .slice none 0 0] 31)
 go_enter Tryd.func8, Tryd.ntmps8
 go_upto_region 1 with fail
 generalize w.alloc (.cells #[.int .i64 0, .int .i64 0, .slice none 0 0, .slice none 0 0, .slice none 0 0, .slice none 0 0] 31) = q at hq0 hqb hqs ⊢
 have QX := Lib.hid hq0
 have QB := Lib.hid hqb
 have QS := Lib.hid hqs
 clear hq0 hqb hqs
 have h1 := heap_alloc_self q (.cells #[.int .i64 2, .int .i64 0, .int .i64 0, .int .i64 0] 51)
 have b1 := below_new q (.cells #[.int .i64 2, .int .i64 0, .int .i64 0, .int .i64 0] 51)
 have s1 := heap_alloc_size q (.cells #[.int .i64 2, .int .i64 0, .int .i64 0, .int .i64 0] 51)
 obtain ⟨w1, e1⟩ : ∃ x, x = q.alloc (.cells #[.int .i64 2, .int .i64 0, .int .i64 0, .int .i64 0] 51) := ⟨_, rfl⟩
 rw [← e1] at h1 b1 s1
 have h2 := heap_alloc_self w1 (.cells #[.int .i64 1, .int .i64 0, .int .i64 3, .int .i64 0, .int .i64 3, .int .i64 1] 51)
 have b2 := below_new w1 (.cells #[.int .i64 1, .int .i64 0, .int .i64 3, .int .i64 0, .int .i64 3, .int .i64 1] 51)
 have s2 := heap_alloc_size w1 (.cells #[.int .i64 1, .int .i64 0, .int .i64 3, .int .i64 0, .int .i64 3, .int .i64 1] 51)
 obtain ⟨w2, e2⟩ : ∃ x, x = w1.alloc (.cells #[.int .i64 1, .int .i64 0, .int .i64 3, .int .i64 0, .int .i64 3, .int .i64 1] 51) := ⟨_, rfl⟩
 rw [← e2] at h2 b2 s2
 have h3 := heap_alloc_self w2 (.cells #[.int .i64 2, .int .i64 1, .int .i64 2, .int .i64 2] 51)
 have b3 := below_new w2 (.cells #[.int .i64 2, .int .i64 1, .int .i64 2, .int .i64 2] 51)
 have s3 := heap_alloc_size w2 (.cells #[.int .i64 2, .int .i64 1, .int .i64 2, .int .i64 2] 51)
 obtain ⟨w3, e3⟩ : ∃ x, x = w2.alloc (.cells #[.int .i64 2, .int .i64 1, .int .i64 2, .int .i64 2] 51) := ⟨_, rfl⟩
 rw [← e3] at h3 b3 s3
 have h4 := heap_alloc_self w3 (.cells #[.int .i64 1, .int .i64 0, .slice (some ⟨q.heap.size, 0, none⟩) 2 2, .int .i64 2, .int .i64 5, .slice (some ⟨q.heap.size + 1, 0, none⟩) 3 3, .int .i64 3, .int .i64 0, .slice (some ⟨q.heap.size + 2, 0, none⟩) 2 2] 54)
 have b4 := below_new w3 (.cells #[.int .i64 1, .int .i64 0, .slice (some ⟨q.heap.size, 0, none⟩) 2 2, .int .i64 2, .int .i64 5, .slice (some ⟨q.heap.size + 1, 0, none⟩) 3 3, .int .i64 3, .int .i64 0, .slice (some ⟨q.heap.size + 2, 0, none⟩) 2 2] 54)
 have s4 := heap_alloc_size w3 (.cells #[.int .i64 1, .int .i64 0, .slice (some ⟨q.heap.size, 0, none⟩) 2 2, .int .i64 2, .int .i64 5, .slice (some ⟨q.heap.size + 1, 0, none⟩) 3 3, .int .i64 3, .int .i64 0, .slice (some ⟨q.heap.size + 2, 0, none⟩) 2 2] 54)
 obtain ⟨w4, e4⟩ : ∃ x, x = w3.alloc (.cells #[.int .i64 1, .int .i64 0, .slice (some ⟨q.heap.size, 0, none⟩) 2 2, .int .i64 2, .int .i64 5, .slice (some ⟨q.heap.size + 1, 0, none⟩) 3 3, .int .i64 3, .int .i64 0, .slice (some ⟨q.heap.size + 2, 0, none⟩) 2 2] 54) := ⟨_, rfl⟩
 rw [← e4] at h4 b4 s4
 have h5 := heap_alloc_self w4 (.cells #[.int .i64 5, .int .i64 2] 56)
 have b5 := below_new w4 (.cells #[.int .i64 5, .int .i64 2] 56)
 have s5 := heap_alloc_size w4 (.cells #[.int .i64 5, .int .i64 2] 56)
 obtain ⟨w5, e5⟩ : ∃ x, x = w4.alloc (.cells #[.int .i64 5, .int .i64 2] 56) := ⟨_, rfl⟩
 rw [← e5] at h5 b5 s5
 have h6 := heap_alloc_self w5 (.cells #[.int .i64 4, .int .i64 1, .int .i64 0] 58)
 have b6 := below_new w5 (.cells #[.int .i64 4, .int .i64 1, .int .i64 0] 58)
 have s6 := heap_alloc_size w5 (.cells #[.int .i64 4, .int .i64 1, .int .i64 0] 58)
 obtain ⟨w6, e6⟩ : ∃ x, x = w5.alloc (.cells #[.int .i64 4, .int .i64 1, .int .i64 0] 58) := ⟨_, rfl⟩
 rw [← e6] at h6 b6 s6
 have h7 := heap_alloc_self w6 (.cells #[.int .i64 2, .int .i64 3] 3)
 have b7 := below_new w6 (.cells #[.int .i64 2, .int .i64 3] 3)
 have s7 := heap_alloc_size w6 (.cells #[.int .i64 2, .int .i64 3] 3)
 obtain ⟨w7, e7⟩ : ∃ x, x = w6.alloc (.cells #[.int .i64 2, .int .i64 3] 3) := ⟨_, rfl⟩
 rw [← e7] at h7 b7 s7
 have h8 := heap_alloc_self w7 (.cells #[.int .i64 8, .int .i64 4, .int .i64 0, .slice (some ⟨q.heap.size + 6, 0, none⟩) 2 2, .slice none 0 0, .slice none 0 0, .int .i64 3] 61)
 have b8 := below_new w7 (.cells #[.int .i64 8, .int .i64 4, .int .i64 0, .slice (some ⟨q.heap.size + 6, 0, none⟩) 2 2, .slice none 0 0, .slice none 0 0, .int .i64 3] 61)
 have s8 := heap_alloc_size w7 (.cells #[.int .i64 8, .int .i64 4, .int .i64 0, .slice (some ⟨q.heap.size + 6, 0, none⟩) 2 2, .slice none 0 0, .slice none 0 0, .int .i64 3] 61)
 obtain ⟨w8, e8⟩ : ∃ x, x = w7.alloc (.cells #[.int .i64 8, .int .i64 4, .int .i64 0, .slice (some ⟨q.heap.size + 6, 0, none⟩) 2 2, .slice none 0 0, .slice none 0 0, .int .i64 3] 61) := ⟨_, rfl⟩
 rw [← e8] at h8 b8 s8
 have z1 : w1.heap.size = q.heap.size + 1 := by omega
 have z2 : w2.heap.size = q.heap.size + 2 := by omega
 have z3 : w3.heap.size = q.heap.size + 3 := by omega
 have z4 : w4.heap.size = q.heap.size + 4 := by omega
 have z5 : w5.heap.size = q.heap.size + 5 := by omega
 have z6 : w6.heap.size = q.heap.size + 6 := by omega
 have z7 : w7.heap.size = q.heap.size + 7 := by omega
 have z8 : w8.heap.size = q.heap.size + 8 := by omega
 have H1 : w8.heap[q.heap.size]? = some (.cells #[.int .i64 2, .int .i64 0, .int .i64 0, .int .i64 0] 51 (0, 0)) := by exact ((b8.block _ (by omega)).trans (((b7.block _ (by omega)).trans (((b6.block _ (by omega)).trans (((b5.block _ (by omega)).trans (((b4.block _ (by omega)).trans (((b3.block _ (by omega)).trans (((b2.block _ (by omega)).trans (h1))))))))))))))
 have H2 : w8.heap[q.heap.size + 1]? = some (.cells #[.int .i64 1, .int .i64 0, .int .i64 3, .int .i64 0, .int .i64 3, .int .i64 1] 51 (0, 0)) := by rw [z1] at h2; exact ((b8.block _ (by omega)).trans (((b7.block _ (by omega)).trans (((b6.block _ (by omega)).trans (((b5.block _ (by omega)).trans (((b4.block _ (by omega)).trans (((b3.block _ (by omega)).trans (h2))))))))))))
 have H3 : w8.heap[q.heap.size + 2]? = some (.cells #[.int .i64 2, .int .i64 1, .int .i64 2, .int .i64 2] 51 (0, 0)) := by rw [z2] at h3; exact ((b8.block _ (by omega)).trans (((b7.block _ (by omega)).trans (((b6.block _ (by omega)).trans (((b5.block _ (by omega)).trans (((b4.block _ (by omega)).trans (h3))))))))))
 have H4 : w8.heap[q.heap.size + 3]? = some (.cells #[.int .i64 1, .int .i64 0, .slice (some ⟨q.heap.size, 0, none⟩) 2 2, .int .i64 2, .int .i64 5, .slice (some ⟨q.heap.size + 1, 0, none⟩) 3 3, .int .i64 3, .int .i64 0, .slice (some ⟨q.heap.size + 2, 0, none⟩) 2 2] 54 (0, 0)) := by rw [z3] at h4; exact ((b8.block _ (by omega)).trans (((b7.block _ (by omega)).trans (((b6.block _ (by omega)).trans (((b5.block _ (by omega)).trans (h4))))))))
 have H5 : w8.heap[q.heap.size + 4]? = some (.cells #[.int .i64 5, .int .i64 2] 56 (0, 0)) := by rw [z4] at h5; exact ((b8.block _ (by omega)).trans (((b7.block _ (by omega)).trans (((b6.block _ (by omega)).trans (h5))))))
 have H6 : w8.heap[q.heap.size + 5]? = some (.cells #[.int .i64 4, .int .i64 1, .int .i64 0] 58 (0, 0)) := by rw [z5] at h6; exact ((b8.block _ (by omega)).trans (((b7.block _ (by omega)).trans (h6))))
 have H7 : w8.heap[q.heap.size + 6]? = some (.cells #[.int .i64 2, .int .i64 3] 3 (0, 0)) := by rw [z6] at h7; exact ((b8.block _ (by omega)).trans (h7))
 have H8 : w8.heap[q.heap.size + 7]? = some (.cells #[.int .i64 8, .int .i64 4, .int .i64 0, .slice (some ⟨q.heap.size + 6, 0, none⟩) 2 2, .slice none 0 0, .slice none 0 0, .int .i64 3] 61 (0, 0)) := by rw [z7] at h8; exact h8
 have H0 : w8.heap[w.heap.size]? = some (.cells #[.int .i64 0, .int .i64 0, .slice none 0 0, .slice none 0 0, .slice none 0 0, .slice none 0 0] 31 (0, 0)) := ((b8.block _ (by have := QS.out; omega)).trans (((b7.block _ (by have := QS.out; omega)).trans (((b6.block _ (by have := QS.out; omega)).trans (((b5.block _ (by have := QS.out; omega)).trans (((b4.block _ (by have := QS.out; omega)).trans (((b3.block _ (by have := QS.out; omega)).trans (((b2.block _ (by have := QS.out; omega)).trans (((b1.block _ (by have := QS.out; omega)).trans (QX.out))))))))))))))))
 have hbq : Below w.heap.size w w8 := by
  refine QB.out.trans (Below.mono ?_ QB.out.size)
  have c1 := b1
  have c2 := c1.trans (b2.mono (show q.heap.size ≤ w1.heap.size by omega))
  have c3 := c2.trans (b3.mono (show q.heap.size ≤ w2.heap.size by omega))
  have c4 := c3.trans (b4.mono (show q.heap.size ≤ w3.heap.size by omega))
  have c5 := c4.trans (b5.mono (show q.heap.size ≤ w4.heap.size by omega))
  have c6 := c5.trans (b6.mono (show q.heap.size ≤ w5.heap.size by omega))
  have c7 := c6.trans (b7.mono (show q.heap.size ≤ w6.heap.size by omega))
  have c8 := c7.trans (b8.mono (show q.heap.size ≤ w7.heap.size by omega))
  exact c8
 have H0' : ((((((((q.alloc (.cells #[.int .i64 2, .int .i64 0, .int .i64 0, .int .i64 0] 51)).alloc (.cells #[.int .i64 1, .int .i64 0, .int .i64 3, .int .i64 0, .int .i64 3, .int .i64 1] 51)).alloc (.cells #[.int .i64 2, .int .i64 1, .int .i64 2, .int .i64 2] 51)).alloc (.cells #[.int .i64 1, .int .i64 0, .slice (some ⟨q.heap.size, 0, none⟩) 2 2, .int .i64 2, .int .i64 5, .slice (some ⟨q.heap.size + 1, 0, none⟩) 3 3, .int .i64 3, .int .i64 0, .slice (some ⟨q.heap.size + 2, 0, none⟩) 2 2] 54)).alloc (.cells #[.int .i64 5, .int .i64 2] 56)).alloc (.cells #[.int .i64 4, .int .i64 1, .int .i64 0] 58)).alloc (.cells #[.int .i64 2, .int .i64 3] 3)).alloc (.cells #[.int .i64 8, .int .i64 4, .int .i64 0, .slice (some ⟨q.heap.size + 6, 0, none⟩) 2 2, .slice none 0 0, .slice none 0 0, .int .i64 3] 61)).heap[w.heap.size]? = some (.cells #[.int .i64 0, .int .i64 0, .slice none 0 0, .slice none 0 0, .slice none 0 0, .slice none 0 0] 31 (0, 0)) := by rw [← e1, ← e2, ← e3, ← e4, ← e5, ← e6, ← e7, ← e8]; exact H0
 have HH0 := Lib.hid H0'
 have E : Hid (((((((((q.alloc (.cells #[.int .i64 2, .int .i64 0, .int .i64 0, .int .i64 0] 51)).alloc (.cells #[.int .i64 1, .int .i64 0, .int .i64 3, .int .i64 0, .int .i64 3, .int .i64 1] 51)).alloc (.cells #[.int .i64 2, .int .i64 1, .int .i64 2, .int .i64 2] 51)).alloc (.cells #[.int .i64 1, .int .i64 0, .slice (some ⟨q.heap.size, 0, none⟩) 2 2, .int .i64 2, .int .i64 5, .slice (some ⟨q.heap.size + 1, 0, none⟩) 3 3, .int .i64 3, .int .i64 0, .slice (some ⟨q.heap.size + 2, 0, none⟩) 2 2] 54)).alloc (.cells #[.int .i64 5, .int .i64 2] 56)).alloc (.cells #[.int .i64 4, .int .i64 1, .int .i64 0] 58)).alloc (.cells #[.int .i64 2, .int .i64 3] 3)).alloc (.cells #[.int .i64 8, .int .i64 4, .int .i64 0, .slice (some ⟨q.heap.size + 6, 0, none⟩) 2 2, .slice none 0 0, .slice none 0 0, .int .i64 3] 61)) = w8) := Lib.hid (by rw [← e1, ← e2, ← e3, ← e4, ← e5, ← e6, ← e7, ← e8])
 have K1 := Lib.hid H1
 have K2 := Lib.hid H2
 have K3 := Lib.hid H3
 have K4 := Lib.hid H4
 have K5 := Lib.hid H5
 have K6 := Lib.hid H6
 have K7 := Lib.hid H7
 have K8 := Lib.hid H8
 have K0 := Lib.hid H0
 have KB := Lib.hid hbq
 clear H0 H0' hbq H1 H2 H3 H4 H5 H6 H7 H8 h1 b1 s1 z1 h2 b2 s2 z2 h3 b3 s3 z3 h4 b4 s4 z4 h5 b5 s5 z5 h6 b6 s6 z6 h7 b7 s7 z7 h8 b8 s8 z8 e1 e2 e3 e4 e5 e6 e7 e8
 go_wp2_with ((with_reducible show wpList _ _ _ (⟨none, _, _, _, _, _⟩ :: _) _ _); refine wpList_store_rowS rfl _ (.tmp 0) (.tmp 22) rfl w.heap.size rfl (c' := #[.int .i64 2, .int .i64 1, .slice (some ⟨q.heap.size + 3, 0, none⟩) 3 3, .slice (some ⟨q.heap.size + 4, 0, none⟩) 1 1, .slice (some ⟨q.heap.size + 5, 0, none⟩) 1 1, .slice (some ⟨q.heap.size + 7, 0, none⟩) 1 1]) rfl HH0.out infoPlan6 rfl (by simp [Value.oneCell']) ?_; rw [E.out])
 have hg := grownBy_setRow w8 w.heap.size #[.int .i64 2, .int .i64 1, .slice (some ⟨q.heap.size + 3, 0, none⟩) 3 3, .slice (some ⟨q.heap.size + 4, 0, none⟩) 1 1, .slice (some ⟨q.heap.size + 5, 0, none⟩) 1 1, .slice (some ⟨q.heap.size + 7, 0, none⟩) 1 1]
 have hneq : ∀ k, q.heap.size ≤ k → k ≠ w.heap.size := fun k hk => by have := QS.out; omega
 have KK : ∀ (b : Nat) (c : Array Value) (t : TypeId), q.heap.size ≤ b → w8.heap[b]? = some (.cells c t (0, 0)) → (w8.setRow w.heap.size #[.int .i64 2, .int .i64 1, .slice (some ⟨q.heap.size + 3, 0, none⟩) 3 3, .slice (some ⟨q.heap.size + 4, 0, none⟩) 1 1, .slice (some ⟨q.heap.size + 5, 0, none⟩) 1 1, .slice (some ⟨q.heap.size + 7, 0, none⟩) 1 1]).heap[b]? = some (.cells c t (0, 0)) := fun b c t hb h => (hg.block b (heap_lt h) (fun e => hneq b hb (by injection e))).trans h
 refine bodyPost_ret (results_cell_row rfl _ _ w.heap.size 31 #[.int .i64 2, .int .i64 1, .slice (some ⟨q.heap.size + 3, 0, none⟩) 3 3, .slice (some ⟨q.heap.size + 4, 0, none⟩) 1 1, .slice (some ⟨q.heap.size + 5, 0, none⟩) 1 1, .slice (some ⟨q.heap.size + 7, 0, none⟩) 1 1] (0, 0) _ rfl (setRow_heap _ _ _ _ _ _ K0.out) Tryd.underlying31 rfl infoPlan6) rfl ⟨_, rfl, ?_, ?_, (show w.heap.size < q.heap.size by have := QS.out; omega), below_setRow KB.out (Nat.le_refl _) _⟩
 ·exact ⟨KK _ _ _ (by omega) K1.out, KK _ _ _ (by omega) K2.out, KK _ _ _ (by omega) K3.out, KK _ _ _ (by omega) K4.out, KK _ _ _ (by omega) K5.out, KK _ _ _ (by omega) K6.out, KK _ _ _ (by omega) K8.out⟩
 ·exact KK _ _ _ (by omega) K7.out
theorem one12_any (w : World) : Calls Tryd.prog 8 #[] w fun e w' => ∃ v, e = .returned v ∧ PlanV w' w'.heap.size v planOne ∧ Below w.heap.size w w' :=
 (one12_at w).mono fun e w' ⟨s, h1, h2, h3, _, h5⟩ => ⟨_, h1, h2.plan (ints2_of h3) 1, h5⟩

theorem key_new (w : World) : Txt (w.alloc (.cells #[.int .u8 107] 5 (1, 2))) (w.alloc (.cells #[.int .u8 107] 5 (1, 2))).heap.size (.slice (some ⟨w.heap.size, 0, none⟩) 1 1) [107] := txt_mark w 5 [107] (1, 2) (by decide)
theorem key_conv (w : World) : (convert 22 22 (.slice (some ⟨w.heap.size, 0, none⟩) 1 1)).run Tryd.prog (w.alloc (.cells #[.int .u8 107] 5)) = .ok (.slice (some ⟨w.heap.size, 0, none⟩) 1 1) (w.alloc (.cells #[.int .u8 107] 5 (1, 2))) := Lib.run_convert_bytes_const (P := Tryd.prog) w 22 5 #[.int .u8 107] 1 1 Tryd.underlying22 Tryd.underlying5
set_option maxHeartbeats 16000000 in
theorem alive12 (hp : PckSaid) (hk : PckKey) (w : World) (hT : Tab w) : Calls Tryd.prog 12 #[] w fun e w' => e = .returned (.bool true) ∧ Below w.heap.size w w' := by
 have HT := Lib.hid hT
 have T0 : Hid (0 < w.heap.size) := Lib.hid (tab_pos hT)
 clear hT
 have TE : Hid (textE planOne = 0 ∧ textV planOne = textL planOne) := Lib.hid (by
  rcases text_cases planOne with ⟨_, h1, h2⟩ | ⟨h1, _⟩
  ·exact ⟨h1, h2⟩
  ·exact absurd may_one h1)
 have WE : Hid (writeE [107] planOne = 0 ∧ writeV [107] planOne = packL [107] planOne) := Lib.hid (by
  have e : writeE [107] planOne = 0 := by rw [writeE, if_neg (by decide), TE.out.1]
  exact ⟨e, by rw [writeV, if_pos e]⟩)
 have RE : Hid (readE [107] (packL [107] planOne) = 0 ∧ readP [107] (packL [107] planOne) = planOne) := Lib.hid (read_pack (by decide) may_one)
 have LT : Hid ((textL planOne).length = 40) := Lib.hid (by rw [text_one]; rfl)
 have LP : Hid ((packL [107] planOne).length = 72) := Lib.hid (by rw [(packL_len [107] may_one).1, LT.out])
 go_enter Tryd.func12, Tryd.ntmps12
 go_wp2_with fail
 refine (one12_any w).mono ?_
 rintro e w1 ⟨v1, rfl, hv1, b1⟩
 have B1 := Lib.hid b1
 have V1 := Lib.hid hv1
 clear b1 hv1
 go_wp2_with fail
 refine (hp.text v1 planOne w1 V1.out).mono ?_
 rintro e w2 ⟨u2, rfl, hu2, b2⟩
 rw [TE.out.2] at hu2
 rw [TE.out.1]
 obtain ⟨A2, c2, rfl, hc2⟩ := hu2.len
 rw [LT.out] at hc2 ⊢
 have X2 : Hid (Txt w2 w2.heap.size (.slice A2 40 c2) (textL planOne)) := Lib.hid (by have h := hu2.txt (by rw [LT.out]; decide); rw [LT.out] at h; exact h)
 obtain ⟨b2_, o2_, rfl⟩ : ∃ b o, A2 = some ⟨b, o, none⟩ := by
  obtain ⟨A', cap, e, _, _, _, h3⟩ := X2.out
  injection e with e1 _ _
  obtain ⟨b, off, ha, _⟩ := h3 (by rw [LT.out]; omega)
  exact ⟨b, off, e1.trans ha⟩
 have HC2 : Hid (40 ≤ c2 ∧ c2 ≤ maxLen) := Lib.hid ⟨hc2, by obtain ⟨_, _, e, _, h, _⟩ := X2.out; injection e with _ _ e; omega⟩
 have B2 := Lib.hid (B1.out.trans (b2.mono B1.out.size))
 clear b2 hu2 hc2 V1 B1
 have kc2 := key_conv w2
 have HK2 := Lib.hid (key_new w2)
 have HB2 := Lib.hid (below_new w2 (.cells #[.int .u8 107] 5 (1, 2)))
 go_wp2_with fail
 refine (one12_any _).mono ?_
 rintro e w3 ⟨v3, rfl, hv3, b3⟩
 have V3 := Lib.hid hv3
 have K3 := Lib.hid ((HK2.out.below b3).more b3.size)
 have b23 := HB2.out.trans (b3.mono HB2.out.size)
 have B3 := Lib.hid (B2.out.trans (b23.mono B2.out.size))
 have X3 := Lib.hid ((X2.out.below b23).more b23.size)
 clear b3 b23 hv3 HK2 HB2 B2 X2 kc2
 go_wp2_with fail
 refine (hk.write _ _ [107] planOne w3 (HT.out.below B3.out T0.out) K3.out V3.out).mono ?_
 rintro e w4 ⟨u4, rfl, hu4, b4⟩
 rw [WE.out.2] at hu4
 rw [WE.out.1]
 obtain ⟨A4, c4, rfl, hc4⟩ := hu4.len
 rw [LP.out] at hc4 ⊢
 have P4 : Hid (Txt w4 w4.heap.size (.slice A4 72 c4) (packL [107] planOne)) := Lib.hid (by have h := hu4.txt (by rw [LP.out]; decide); rw [LP.out] at h; exact h)
 have B4 := Lib.hid (B3.out.trans (b4.mono B3.out.size))
 have X4 := Lib.hid ((X3.out.below b4).more b4.size)
 clear b4 hu4 hc4 B3 X3 K3 V3
 have kc4 := key_conv w4
 have HK4 := Lib.hid (key_new w4)
 have hb4 := below_new w4 (.cells #[.int .u8 107] 5 (1, 2))
 have B4b := Lib.hid (B4.out.trans (hb4.mono B4.out.size))
 have X4b := Lib.hid ((X4.out.below hb4).more hb4.size)
 have P4b := Lib.hid ((P4.out.below hb4).more hb4.size)
 clear hb4 B4 X4 P4
 go_wp2_with fail
 refine (hk.read _ _ [107] (packL [107] planOne) _ (HT.out.below B4b.out T0.out) HK4.out P4b.out (by rw [LP.out]; decide)).mono ?_
 rintro e w5 ⟨y2, y3, y4, y5, rfl, hpo, b5⟩
 rw [RE.out.2] at hpo ⊢
 rw [RE.out.1]
 obtain ⟨C2, d2, rfl⟩ := hpo.secs.slice
 obtain ⟨C3, d3, rfl⟩ := hpo.pts.slice
 obtain ⟨C4, d4, rfl⟩ := hpo.sigs.slice
 obtain ⟨C5, d5, rfl⟩ := hpo.routes.slice
 have B5 := Lib.hid (B4b.out.trans (b5.mono B4b.out.size))
 have X5 := Lib.hid ((X4b.out.below b5).more b5.size)
 have PI := Lib.hid hpo.in_
 clear b5 hpo B4b X4b P4b HK4 kc4
 have XX0 := heap_alloc_self w5 (.cells #[.int .i64 0, .int .i64 0, .slice none 0 0, .slice none 0 0, .slice none 0 0, .slice none 0 0] 31)
 have hb6 := below_setRow (below_new w5 (.cells #[.int .i64 0, .int .i64 0, .slice none 0 0, .slice none 0 0, .slice none 0 0, .slice none 0 0] 31)) (Nat.le_refl _) #[.int .i64 planOne.ver, .int .i64 planOne.par, .slice C2 planOne.secs.length d2, .slice C3 planOne.pts.length d3, .slice C4 planOne.sigs.length d4, .slice C5 planOne.routes.length d5]
 have hx6 := setRow_heap (w5.alloc (.cells #[.int .i64 0, .int .i64 0, .slice none 0 0, .slice none 0 0, .slice none 0 0, .slice none 0 0] 31)) w5.heap.size _ #[.int .i64 planOne.ver, .int .i64 planOne.par, .slice C2 planOne.secs.length d2, .slice C3 planOne.pts.length d3, .slice C4 planOne.sigs.length d4, .slice C5 planOne.routes.length d5] 31 _ XX0
 go_upto_region 4 with ((with_reducible show wpList _ _ _ (⟨none, _, _, _, _, _⟩ :: _) _ _); refine wpList_store_rowS rfl _ (.tmp 5) (.tmp 24) rfl w5.heap.size rfl (c' := #[.int .i64 planOne.ver, .int .i64 planOne.par, .slice C2 planOne.secs.length d2, .slice C3 planOne.pts.length d3, .slice C4 planOne.sigs.length d4, .slice C5 planOne.routes.length d5]) rfl XX0 infoPlanA rfl (by simp [Value.oneCell']) ?_)
 generalize (w5.alloc (.cells #[.int .i64 0, .int .i64 0, .slice none 0 0, .slice none 0 0, .slice none 0 0, .slice none 0 0] 31)).setRow w5.heap.size #[.int .i64 planOne.ver, .int .i64 planOne.par, .slice C2 planOne.secs.length d2, .slice C3 planOne.pts.length d3, .slice C4 planOne.sigs.length d4, .slice C5 planOne.routes.length d5] = q at hb6 hx6 ⊢
 obtain ⟨p5, hp5⟩ : ∃ n, n = w5.heap.size := ⟨_, rfl⟩
 rw [← hp5] at hx6 ⊢
 have X6 := Lib.hid hx6
 have BQ := Lib.hid (B5.out.trans (hb6.mono B5.out.size))
 have XT := Lib.hid ((X5.out.below hb6).more hb6.size)
 have PQ := Lib.hid ((PI.out.below hb6).more hb6.size)
 clear XX0 hb6 hx6 hp5 B5 X5 PI
 have hcap : (7 : Int) ≤ c2 := by have := HC2.out; omega
 have TX7 : Hid ((textL planOne).take 7 = [2, 1, 3, 1, 0, 2, 0]) := Lib.hid (by rw [text_one]; rfl)
 refine wp_region_held_drew (S := fun v => Below q.heap.size q v) (by kernel_rfl) (Below.refl q.heap.size q).drew (fun hHeld => ?_)
 refine tk 0 hHeld ?_;refine tk 1 hHeld ?_;refine tk 2 hHeld ?_;refine tk 3 hHeld ?_;refine tk 4 hHeld ?_;refine tk 5 hHeld ?_;refine tk 6 hHeld ?_;refine tk 7 hHeld ?_;refine tk 8 hHeld ?_;refine tk 9 hHeld ?_
 refine wpAnyH_take (i := 10) (v := ?_) rfl (by kernel_rfl) (by kernel_rfl) (by kernel_rfl) (fun _ _ _ h => h) (Or.inl ⟨by rfl, ?_⟩) hHeld ?_
 rotate_left
 ·intro w' hSw; have hc10 := run_txt_string ((XT.out.below hSw).pre (m := 7) (by decide)); rw [TX7.out] at hc10; go_simp; try with_reducible rfl
 simp only [zn, Act.put]
 refine tk 11 hHeld ?_;refine tk 12 hHeld ?_;refine tk 13 hHeld ?_;refine tk 14 hHeld ?_;refine tk 15 hHeld ?_;refine tk 16 hHeld ?_;refine tk 17 hHeld ?_;refine tk 18 hHeld ?_;refine tk 19 hHeld ?_;refine tk 20 hHeld ?_;refine tk 21 hHeld ?_;refine tk 22 hHeld ?_;refine tk 23 hHeld ?_;refine tk 24 hHeld ?_;refine tk 25 hHeld ?_;refine tk 26 hHeld ?_;refine tk 27 hHeld ?_;refine tk 28 hHeld ?_;refine tk 29 hHeld ?_;refine tkc 30 hHeld (fun w' hSw => cell6_of ((hSw.block _ (heap_lt X6.out)).trans X6.out)) ?_
 refine tkr 31 (fun K hK => ?_)
 go_simp
 refine (one12_any _).mono ?_
 rintro e x1 ⟨v6, rfl, hv6, b6⟩
 have BX1 : Hid (Below q.heap.size q x1) := Lib.hid ((Below.refl q.heap.size q).drew.trans (b6.mono (Below.refl q.heap.size q).drew.size))
 have V6 := Lib.hid hv6
 clear b6 hv6
 try go_wp2_with fail
 refine hK.out _ _ ?_ fun hHeld => ?_;exact BX1.out;clear hK K;try simp only [zn, Act.put]
 refine tkr 32 (fun K hK => ?_)
 go_simp
 refine (rsame8_any _ _ planOne planOne x1 ⟨_, _, _, _, rfl, (PQ.out.below BX1.out).more BX1.out.size⟩ V6.out).mono ?_
 rintro e x2 ⟨rfl, b7⟩
 rw [eqB_true rfl]
 have BX2 : Hid (Below q.heap.size q x2) := Lib.hid (BX1.out.trans (b7.mono BX1.out.size))
 clear b7
 try go_wp2_with fail
 refine hK.out _ _ ?_ fun hHeld => ?_;exact BX2.out;clear hK K;try simp only [zn, Act.put]
 refine tk 33 hHeld ?_;refine tk 34 hHeld ?_
 refine wpAnyH_done (by kernel_rfl) ?_ _
 have BL := Lib.hid (BQ.out.trans (BX2.out.mono BQ.out.size))
 go_wp2_with fail
 go_ret
 exact ⟨rfl, BL.out⟩
end Go.Proofs.YteloiajocjahmaaDoor
