/-
 The program's package plan: how many ends a section has, who stands at an end; numbers found in a list.
 Conditions: none.
-/
import Derived.Test.YtneeocnjfnneoaaQGPlnRefA
import Derived.Test.YtneeocnjfnneoaaQPlnPM
set_option linter.unusedVariables false
set_option linter.unusedSimpArgs false
set_option maxRecDepth 100000
namespace Go.Proofs.Ytneeocnjfnneoaa
open Go.RowKit

set_option maxHeartbeats 4000000 in
theorem index_any (v : Value) (l : List Int) (x : Int) (w : World) (h : IntsIn w w.heap.size v l) :
  Calls Try.prog 13 #[v, .int .i64 x] w fun e w' => e = .returned (.int .i64 (at1 (fun z => z) l x)) ∧ w = w' := by
 obtain ⟨A, c, n, rfl, hml, HN, HA⟩ := open_list h
 go_enter Try.func13, Try.ntmps13
 go_wp2_with fail
 go_loopw [8] (fun s8 wr => ∃ i : Nat, i ≤ n ∧ s8 = .int .i64 i ∧ (∀ j (hj : j < i) (hl : j < l.length), l[j] ≠ x) ∧ wr = w) (fun s8 _ => n - (intOf s8).toNat)
 case atStart => exact ⟨0, by omega, by go_num, fun j hj => absurd hj (by omega), rfl⟩
 case round =>
  obtain ⟨i, hi, rfl, hall, rfl⟩ := hrel
  have HALL := Lib.hid hall
  clear hall
  by_cases hlt : i < n
  ·have hlt' : (i : Int) < n := by omega
   have hir : i < l.length := by rw [← HN.out]; exact hlt
   obtain ⟨bk, off, rfl, hbk, hc0⟩ := HA.out.at hir
   obtain ⟨z, hz⟩ : ∃ z, z = l[i] := ⟨_, rfl⟩
   have hcell : wr.cell? ⟨bk, off + i, none⟩ = some (.int .i64 z) := by rw [hz]; simpa [IntR] using hc0
   have HZ := Lib.hid hz
   clear hc0 hz
   by_cases he : x = z
   ·have hd : (x == z) = true := by simpa using he
    have HR : Hid (at1 (fun z => z) l x = (i : Int)) := Lib.hid (at1_some hir (HZ.out.symm.trans he.symm) fun j hj => HALL.out j hj (by omega))
    clear he
    go_wp2_with fail
    go_ret
    exact ⟨by rw [HR.out]; rfl, rfl⟩
   ·have hd : (x == z) = false := by simpa using he
    have NX : Hid (∀ j (hj : j < i + 1) (hl : j < l.length), l[j] ≠ x) := Lib.hid (fun j hj hl => by
     rcases Nat.lt_or_ge j i with h | h
     ·exact HALL.out j h hl
     ·obtain rfl : j = i := by omega
      exact fun h2 => he (h2.symm.trans HZ.out.symm))
    clear he
    go_wp2_with fail
    go_roundw
    case measure => simp [intOf]; omega
    case rel => exact ⟨i + 1, by omega, by go_num, NX.out, trivial⟩
  ·obtain rfl : i = n := by omega
   have hlt' : ¬ (i : Int) < i := by omega
   have HR : Hid (at1 (fun z => z) l x = -1) := Lib.hid (at1_none fun j hj => HALL.out j (by rw [HN.out]; exact hj) hj)
   go_wp2_with fail
   go_ret
   exact ⟨by rw [HR.out]; rfl, rfl⟩
def inB (l : List Int) (x : Int) : Bool := decide (0 ≤ at1 (fun z => z) l x)
theorem inB_true {l : List Int} {x : Int} : inB l x = true ↔ ∃ j, ∃ hj : j < l.length, l[j] = x := by
 rw [inB, decide_eq_true_iff]
 rcases at1_cases (fun z : Int => z) l x with ⟨h1, h2⟩ | ⟨i, hi, h1, h2, h3⟩
 ·exact ⟨fun h => by omega, fun ⟨j, hj, e⟩ => absurd e (h2 j hj)⟩
 ·exact ⟨fun h => ⟨i, hi, h2⟩, fun _ => by omega⟩
theorem contains_any (v : Value) (l : List Int) (x : Int) (w : World) (h : IntsIn w w.heap.size v l) :
  Calls Try.prog 9 #[v, .int .i64 x] w fun e w' => e = .returned (.bool (inB l x)) ∧ w = w' := by
 have H := Lib.hid h
 obtain ⟨A, c, rfl, -, -⟩ := h.slice
 clear h
 have HI : Hid (inB l x = decide (0 ≤ at1 (fun z => z) l x)) := Lib.hid rfl
 go_enter Try.func9, Try.ntmps9
 go_wp2_with ((with_reducible show Calls _ _ _ _ _); refine (index_any _ l x _ H.out).mono ?_; rintro e w' ⟨rfl, rfl⟩; generalize at1 (fun z => z) l x = y at HI ⊢)
 go_ret
 exact ⟨by rw [HI.out]; rfl, rfl⟩
end Go.Proofs.Ytneeocnjfnneoaa
