/-
 Packages: a plan's text, and behind it its tag; what writing and reading one answers.
 Conditions: none.
-/
import Derived.Test.YteloiajocjahmaaGreatDoorSGPckP
import Derived.Test.YteloiajocjahmaaGreatDoorSGHmac
set_option linter.unusedVariables false
set_option linter.unusedSimpArgs false
set_option maxRecDepth 100000
namespace Go.Proofs.YteloiajocjahmaaGreatDoor
open Go.RowKit

def packL (key : List UInt8) (p : Pl) : List UInt8 := textL p ++ tagL key (textL p)
noncomputable def writeE (key : List UInt8) (p : Pl) : Int := if 64 < key.length then 3 else textE p
noncomputable def writeV (key : List UInt8) (p : Pl) : List UInt8 := if writeE key p = 0 then packL key p else []
noncomputable def readE (key b : List UInt8) : Int := if 64 < key.length ∨ 2048 < b.length then 3 else if b.length < 32 then 8 else if tagL key (b.take (b.length - 32)) ≠ b.drop (b.length - 32) then 120 else parseE (b.take (b.length - 32))
noncomputable def readP (key b : List UInt8) : Pl := if readE key b = 0 then parseP (b.take (b.length - 32)) else zPl
theorem packL_len (key : List UInt8) {p : Pl} (h : PlanMay p) : (packL key p).length = (textL p).length + 32 ∧ (packL key p).length ≤ 642 := by
 have h1 := text_len h
 rw [packL, List.length_append, tagL_length]
 omega
theorem write_cases (key : List UInt8) (p : Pl) : (key.length ≤ 64 ∧ PlanMay p ∧ writeE key p = 0 ∧ writeV key p = packL key p) ∨ (writeE key p ≠ 0 ∧ writeV key p = []) := by
 by_cases h : 64 < key.length
 ·have e : writeE key p = 3 := by rw [writeE, if_pos h]
  exact .inr ⟨by rw [e]; decide, by rw [writeV, e]; rfl⟩
 ·rcases text_cases p with ⟨h1, h2, -⟩ | ⟨-, h2, -⟩
  ·have e : writeE key p = 0 := by rw [writeE, if_neg h, h2]
   exact .inl ⟨by omega, h1, e, by rw [writeV, if_pos e]⟩
  ·have e : writeE key p = 8 := by rw [writeE, if_neg h, h2]
   exact .inr ⟨by rw [e]; decide, by rw [writeV, e]; rfl⟩
theorem read_not {key b : List UInt8} (h : readE key b ≠ 0) : readP key b = zPl := by rw [readP, if_neg h]
/-- What the program's package pack answers of packages, where the program's constants are laid. -/
structure PckKey : Prop where
 write : ∀ (v y : Value) (key : List UInt8) (p : Pl) (w : World), Tab w → Txt w w.heap.size v key → PlanV w w.heap.size y p →
  Calls Tryz.prog 5 #[v, y] w fun e w' => ∃ u, e = .returned (.tuple #[u, .int .i64 (writeE key p)]) ∧ TxtOwn w' w.heap.size u (writeV key p) ∧ Below w.heap.size w w'
 read : ∀ (v y : Value) (key b : List UInt8) (w : World), Tab w → Txt w w.heap.size v key → Txt w w.heap.size y b → b.length ≤ 10000 →
  Calls Tryz.prog 7 #[v, y] w fun e w' => ∃ u2 u3 u4 u5, e = .returned (.tuple #[.agg #[.int .i64 (readP key b).ver, .int .i64 (readP key b).par, u2, u3, u4, u5], .int .i64 (readE key b)]) ∧ PlOwn w' w.heap.size u2 u3 u4 u5 (readP key b) ∧ Below w.heap.size w w'
end Go.Proofs.YteloiajocjahmaaGreatDoor
