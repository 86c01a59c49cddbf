/-
  A disk as one text: mathematics.
  Conditions: none.
-/
import Derived.Test.YtdpjdobmnkadjaaRefLong
import Derived.Test.YtdpjdobmnkadjaaDevMath
set_option linter.unusedVariables false
set_option linter.unusedSimpArgs false
namespace Go.Proofs.Ytdpjdobmnkadjaa
open Go.RowKit

def strB (xs : Bs) : ByteArray := ⟨xs.toArray⟩
def longT (n : Int) : Bs := longL (u64N n) 8
theorem longT_length (n : Int) : (longT n).length = 9 := longL_length _ _
theorem longB_eq (n : Int) : longB (u64N n) 8 = strB (longT n) := rfl
def toldS (s : Bs) : Bs := longT s.length ++ s
def toldW (x : Wr) : Bs := longT x.1 ++ (longT x.2.length ++ x.2)
def told1 (ss : List Bs) : Bs := (ss.map toldS).flatten
def told2 (ws : List Wr) : Bs := (ws.map toldW).flatten
def toldD (ss : List Bs) (ws : List Wr) : Bs := told1 ss ++ (124 :: told2 ws)
theorem toldS_length (s : Bs) : (toldS s).length = 9 + s.length := by rw [toldS, List.length_append, longT_length]
theorem toldW_length (x : Wr) : (toldW x).length = 18 + x.2.length := by rw [toldW, List.length_append, List.length_append, longT_length, longT_length]; omega
theorem told1_snoc {ss : List Bs} {i : Nat} {s : Bs} (h : ss[i]? = some s) : told1 (ss.take (i + 1)) = told1 (ss.take i) ++ (longT s.length ++ s) := by
  rw [List.take_add_one, h]
  simp [told1, toldS]
theorem told2_snoc {ws : List Wr} {i : Nat} {x : Wr} (h : ws[i]? = some x) : told2 (ws.take (i + 1)) = told2 (ws.take i) ++ (longT x.1 ++ (longT x.2.length ++ x.2)) := by
  rw [List.take_add_one, h]
  simp [told2, toldW]
theorem told1_take_le (ss : List Bs) (i : Nat) : (told1 (ss.take i)).length ≤ (told1 ss).length := by
  have : told1 ss = told1 (ss.take i) ++ told1 (ss.drop i) := by
    simp only [told1, ← List.flatten_append, ← List.map_append, List.take_append_drop]
  rw [this, List.length_append]
  omega
theorem told2_take_le (ws : List Wr) (i : Nat) : (told2 (ws.take i)).length ≤ (told2 ws).length := by
  have : told2 ws = told2 (ws.take i) ++ told2 (ws.drop i) := by
    simp only [told2, ← List.flatten_append, ← List.map_append, List.take_append_drop]
  rw [this, List.length_append]
  omega
theorem told1_le {ss : List Bs} {L : Nat} (h : ∀ s ∈ ss, s.length ≤ L) : (told1 ss).length ≤ ss.length * (9 + L) := by
  induction ss with
  | nil => simp [told1]
  | cons s ss ih =>
    have h1 := ih (fun x hx => h x (List.mem_cons_of_mem _ hx))
    have h2 := h s (by simp)
    have e : told1 (s :: ss) = toldS s ++ told1 ss := by simp [told1]
    rw [e, List.length_append, toldS_length, List.length_cons, Nat.succ_mul]
    omega
theorem told2_le {ws : List Wr} {L : Nat} (h : ∀ x ∈ ws, x.2.length ≤ L) : (told2 ws).length ≤ ws.length * (18 + L) := by
  induction ws with
  | nil => simp [told2]
  | cons s ss ih =>
    have h1 := ih (fun x hx => h x (List.mem_cons_of_mem _ hx))
    have h2 := h s (by simp)
    have e : told2 (s :: ss) = toldW s ++ told2 ss := by simp [told2]
    rw [e, List.length_append, toldW_length, List.length_cons, Nat.succ_mul]
    omega
/-- A disk that can be told. -/
structure Tells (ss : List Bs) (ws : List Wr) : Prop where
  n : ss.length ≤ 100000
  m : ws.length ≤ 100000
  l : (told1 ss).length + (told2 ws).length ≤ 8000000
  a : ∀ x ∈ ws, -9223372036854775808 ≤ x.1 ∧ x.1 ≤ 9223372036854775807
theorem Tells.nil_ : Tells [] [] := ⟨by simp, by simp, by simp [told1, told2], fun x hx => by simp at hx⟩
theorem tells_of {ss : List Bs} {ws : List Wr} (h1 : ss.length ≤ 32) (h2 : ws.length ≤ 257) (h3 : ∀ s ∈ ss, s.length ≤ 128) (h4 : ∀ x ∈ ws, 0 ≤ x.1 ∧ x.1 < 32 ∧ x.2.length ≤ 128) : Tells ss ws := by
  refine ⟨by omega, by omega, ?_, fun x hx => by have := h4 x hx; omega⟩
  have a := told1_le h3
  have b := told2_le (fun x hx => (h4 x hx).2.2)
  have c : ss.length * (9 + 128) ≤ 32 * (9 + 128) := Nat.mul_le_mul_right _ h1
  have d : ws.length * (18 + 128) ≤ 257 * (18 + 128) := Nat.mul_le_mul_right _ h2
  omega
theorem May.tells {ss : List Bs} {ws : List Wr} (h : May ss ws) : Tells ss ws :=
  tells_of (by rw [h.n]; omega) (by have := h.m; omega) (fun s hs => by rw [h.s s hs]; omega) (fun x hx => by obtain ⟨h1, h2, h3⟩ := h.w x hx; exact ⟨h1, h2, by omega⟩)
theorem strB_add (w : World) (x y z : Bs) (hz : z = x ++ y) (h : z.length ≤ 8000002) : ∀ w : World, (Op.stringOp .add (strB x) (strB y)).run Try.prog w = .ok (.string (strB z)) w := fun w => by
  subst hz
  rw [List.length_append] at h
  exact run_string_add_lists w x y (by omega) (by omega)
end Go.Proofs.Ytdpjdobmnkadjaa
