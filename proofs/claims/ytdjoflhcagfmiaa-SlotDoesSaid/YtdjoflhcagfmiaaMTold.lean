/-
  The document's own functions: long (a number as a text of nine bytes).
  Conditions: none.
-/
import Derived.Test.YtdjoflhcagfmiaaMDev
import Derived.Laws.Concat
import Derived.Laws.BytesString
import Derived.Test.YtdjoflhcagfmiaaMBase
import Derived.Test.YtdjoflhcagfmiaaMRef
import Derived.Test.YtdjoflhcagfmiaaMDisk
set_option linter.unusedVariables false
set_option linter.unusedSimpArgs false
set_option maxRecDepth 100000
namespace Go.Proofs.Ytdjoflhcagfmiaa
open Go.RowKit

/-- A number's bytes, the least first, behind a dot. -/
def longL (u i : Nat) : Bs := 46 :: (List.range i).map (fun j => UInt8.ofNat (u / 256 ^ j))
theorem longL_length (u i : Nat) : (longL u i).length = i + 1 := by simp [longL]
theorem longL_snoc (u i : Nat) : longL u (i + 1) = longL u i ++ [UInt8.ofNat (u / 256 ^ i)] := by simp [longL, List.range_succ]
def longB (u i : Nat) : ByteArray := ⟨(longL u i).toArray⟩
def u64N (n : Int) : Nat := (n % 18446744073709551616).toNat

set_option maxHeartbeats 1000000 in
theorem long_any (n : Int) (hn : -9223372036854775808 ≤ n ∧ n ≤ 9223372036854775807) (w : World) : Calls Try.prog 70 #[.int .i64 n] w fun e w' => e = .returned (.string (longB (u64N n) 8)) ∧ Below w.heap.size w w' := by
  have hu : Hid ((u64N n : Int) = n % 18446744073709551616 ∧ u64N n < 18446744073709551616) := Lib.hid (by unfold u64N; omega)
  obtain ⟨u, hu'⟩ : ∃ u, u = u64N n := ⟨_, rfl⟩
  rw [← hu'] at hu ⊢
  have hcu : ∀ w : World, (convert 3 79 (.int .i64 n)).run Try.prog w = .ok (.int .u64 (u : Int)) w := by
    intro w
    rw [hu.out.1]
    go_simp
    simp [IntKind.wrap, IntKind.bits, IntKind.signed]
  clear hu'
  go_enter Try.func70, Try.ntmps70
  go_wp2_with fail
  go_loopw [3, 4, 5] (fun s3 s4 s5 wr => ∃ i : Nat, i ≤ 8 ∧ s5 = .int .i64 i ∧ s4 = .int .u64 ((u / 256 ^ i : Nat) : Int) ∧ s3 = .string (longB u i) ∧ Below w.heap.size w wr) (fun _ _ s5 _ => 8 - (intOf s5).toNat)
  case atStart => exact ⟨0, by omega, rfl, by simp, rfl, Below.refl _ _⟩
  case round =>
    obtain ⟨i, hi, rfl, rfl, rfl, hb⟩ := hrel
    have HB := Lib.hid hb
    clear hb
    by_cases hlt : i < 8
    · have hlt' : (i : Int) < 8 := by omega
      have hbnd : u / 256 ^ i < 18446744073709551616 := Nat.lt_of_le_of_lt (Nat.div_le_self _ _) hu.out.2
      obtain ⟨y, hy⟩ : ∃ y, y = u / 256 ^ i := ⟨_, rfl⟩
      have hnext : u / 256 ^ (i + 1) = y / 256 := by rw [hy, Nat.pow_succ, Nat.div_div_eq_div_mul]
      have HNX := Lib.hid hnext
      have hsn : longL u (i + 1) = longL u i ++ [UInt8.ofNat y] := by rw [hy]; exact longL_snoc u i
      have HSN := Lib.hid hsn
      have HY := Lib.hid hy
      rw [← hy] at hbnd ⊢
      have hc8 : ∀ w : World, (convert 79 5 (.int .u64 (y : Int))).run Try.prog w = .ok (.int .u8 ((UInt8.ofNat y).toNat : Int)) w := by
        intro w
        have : ((UInt8.ofNat y).toNat : Int) = (y : Int) % 256 := by simp
        rw [this]
        go_simp
        simp [IntKind.wrap, IntKind.bits, IntKind.signed]
      have hst : ∀ w : World, (convert 34 9 (.slice (some ⟨w.heap.size, 0, none⟩) 1 1)).run Try.prog (w.alloc (.cells #[.int .u8 ((y : Int) % 256)] 5)) = .ok (.string ⟨[UInt8.ofNat y].toArray⟩) (w.alloc (.cells #[.int .u8 ((y : Int) % 256)] 5)) := fun w => by
        have h := run_txt_string (txt_new w 5 [UInt8.ofNat y] (by simp [maxLen]))
        have e : ([UInt8.ofNat y].map Go.Proofs.Ytdjoflhcagfmiaa.u8).toArray = #[.int .u8 ((y : Int) % 256)] := by simp [Go.Proofs.Ytdjoflhcagfmiaa.u8]
        rw [e] at h
        exact h
      have hadd : ∀ w : World, (Op.stringOp .add (longB u i) ⟨[UInt8.ofNat y].toArray⟩).run Try.prog w = .ok (.string (longB u (i + 1))) w := fun w => by
        rw [longB, run_string_add_lists w _ _ (by rw [longL_length]; omega) (by simp), ← hsn]; rfl
      have hshr : ∀ w : World, (binOp .shr 79 (.int .u64 (y : Int)) (.int .u64 8)).run Try.prog w = .ok (.int .u64 ((y / 256 : Nat) : Int)) w := by
        intro w
        go_simp
      clear hsn hy hnext
      go_wp2_with fail
      go_roundw
      case measure => simp [intOf]; omega
      case rel => exact ⟨i + 1, by omega, by go_num, by rw [HNX.out]; exact congrArg (Value.int .u64) (by omega), rfl, HB.out.alloc HB.out.size _⟩
    · obtain rfl : i = 8 := by omega
      have hlt' : ¬ ((8 : Nat) : Int) < 8 := by omega
      go_wp2_with fail
      go_ret
      exact ⟨rfl, HB.out⟩
end Go.Proofs.Ytdjoflhcagfmiaa

/-
  A disk as one text: mathematics.
  Conditions: none.
-/
set_option linter.unusedVariables false
set_option linter.unusedSimpArgs false
set_option maxRecDepth 100000
namespace Go.Proofs.Ytdjoflhcagfmiaa
open Go.RowKit

def strB (xs : Bs) : ByteArray := ⟨xs.toArray⟩
def longT (n : Int) : Bs := longL (u64N n) 8
theorem longT_length (n : Int) : (longT n).length = 9 := longL_length _ _
theorem longB_eq (n : Int) : longB (u64N n) 8 = strB (longT n) := rfl
def toldS (s : Bs) : Bs := longT s.length ++ s
def toldW (x : Wr) : Bs := longT x.1 ++ (longT x.2.length ++ x.2)
def told1 (ss : List Bs) : Bs := (ss.map toldS).flatten
def told2 (ws : List Wr) : Bs := (ws.map toldW).flatten
def toldD (ss : List Bs) (ws : List Wr) : Bs := told1 ss ++ (124 :: told2 ws)
theorem toldS_length (s : Bs) : (toldS s).length = 9 + s.length := by rw [toldS, List.length_append, longT_length]
theorem toldW_length (x : Wr) : (toldW x).length = 18 + x.2.length := by rw [toldW, List.length_append, List.length_append, longT_length, longT_length]; omega
theorem told1_snoc {ss : List Bs} {i : Nat} {s : Bs} (h : ss[i]? = some s) : told1 (ss.take (i + 1)) = told1 (ss.take i) ++ (longT s.length ++ s) := by
  rw [List.take_add_one, h]
  simp [told1, toldS]
theorem told2_snoc {ws : List Wr} {i : Nat} {x : Wr} (h : ws[i]? = some x) : told2 (ws.take (i + 1)) = told2 (ws.take i) ++ (longT x.1 ++ (longT x.2.length ++ x.2)) := by
  rw [List.take_add_one, h]
  simp [told2, toldW]
theorem told1_take_le (ss : List Bs) (i : Nat) : (told1 (ss.take i)).length ≤ (told1 ss).length := by
  have : told1 ss = told1 (ss.take i) ++ told1 (ss.drop i) := by
    simp only [told1, ← List.flatten_append, ← List.map_append, List.take_append_drop]
  rw [this, List.length_append]
  omega
theorem told2_take_le (ws : List Wr) (i : Nat) : (told2 (ws.take i)).length ≤ (told2 ws).length := by
  have : told2 ws = told2 (ws.take i) ++ told2 (ws.drop i) := by
    simp only [told2, ← List.flatten_append, ← List.map_append, List.take_append_drop]
  rw [this, List.length_append]
  omega
theorem told1_le {ss : List Bs} {L : Nat} (h : ∀ s ∈ ss, s.length ≤ L) : (told1 ss).length ≤ ss.length * (9 + L) := by
  induction ss with
  | nil => simp [told1]
  | cons s ss ih =>
    have h1 := ih (fun x hx => h x (List.mem_cons_of_mem _ hx))
    have h2 := h s (by simp)
    have e : told1 (s :: ss) = toldS s ++ told1 ss := by simp [told1]
    rw [e, List.length_append, toldS_length, List.length_cons, Nat.succ_mul]
    omega
theorem told2_le {ws : List Wr} {L : Nat} (h : ∀ x ∈ ws, x.2.length ≤ L) : (told2 ws).length ≤ ws.length * (18 + L) := by
  induction ws with
  | nil => simp [told2]
  | cons s ss ih =>
    have h1 := ih (fun x hx => h x (List.mem_cons_of_mem _ hx))
    have h2 := h s (by simp)
    have e : told2 (s :: ss) = toldW s ++ told2 ss := by simp [told2]
    rw [e, List.length_append, toldW_length, List.length_cons, Nat.succ_mul]
    omega
/-- A disk that can be told. -/
structure Tells (ss : List Bs) (ws : List Wr) : Prop where
  n : ss.length ≤ 100000
  m : ws.length ≤ 100000
  l : (told1 ss).length + (told2 ws).length ≤ 8000000
  a : ∀ x ∈ ws, -9223372036854775808 ≤ x.1 ∧ x.1 ≤ 9223372036854775807
theorem Tells.nil_ : Tells [] [] := ⟨by simp, by simp, by simp [told1, told2], fun x hx => by simp at hx⟩
theorem tells_of {ss : List Bs} {ws : List Wr} (h1 : ss.length ≤ 32) (h2 : ws.length ≤ 257) (h3 : ∀ s ∈ ss, s.length ≤ 128) (h4 : ∀ x ∈ ws, 0 ≤ x.1 ∧ x.1 < 32 ∧ x.2.length ≤ 128) : Tells ss ws := by
  refine ⟨by omega, by omega, ?_, fun x hx => by have := h4 x hx; omega⟩
  have a := told1_le h3
  have b := told2_le (fun x hx => (h4 x hx).2.2)
  have c : ss.length * (9 + 128) ≤ 32 * (9 + 128) := Nat.mul_le_mul_right _ h1
  have d : ws.length * (18 + 128) ≤ 257 * (18 + 128) := Nat.mul_le_mul_right _ h2
  omega
theorem May.tells {ss : List Bs} {ws : List Wr} (h : May ss ws) : Tells ss ws :=
  tells_of (by rw [h.n]; omega) (by have := h.m; omega) (fun s hs => by rw [h.s s hs]; omega) (fun x hx => by obtain ⟨h1, h2, h3⟩ := h.w x hx; exact ⟨h1, h2, by omega⟩)
theorem strB_add (w : World) (x y z : Bs) (hz : z = x ++ y) (h : z.length ≤ 8000002) : ∀ w : World, (Op.stringOp .add (strB x) (strB y)).run Try.prog w = .ok (.string (strB z)) w := fun w => by
  subst hz
  rw [List.length_append] at h
  exact run_string_add_lists w x y (by omega) (by omega)
end Go.Proofs.Ytdjoflhcagfmiaa

/-
  The document's own functions: told (a disk as one text).
  Conditions: the text has at most 8,000,000 bytes.
-/
set_option linter.unusedVariables false
set_option linter.unusedSimpArgs false
set_option maxRecDepth 100000
namespace Go.Proofs.Ytdjoflhcagfmiaa
open Go.RowKit

set_option maxRecDepth 100000 in
set_option maxHeartbeats 8000000 in
theorem told_any (d : Value) (ss : List Bs) (ws : List Wr) (w : World) (h : DiskIn w w.heap.size d ss ws) (ht : Tells ss ws) :
    Calls Try.prog 44 #[d] w fun e w' => e = .returned (.string (strB (toldD ss ws))) ∧ Below w.heap.size w w' := by
  obtain ⟨v1, v2, rfl, h1, h2⟩ := id h
  have H1 := Lib.hid h1
  have H2 := Lib.hid h2
  have HT := Lib.hid ht
  obtain ⟨A1, c1, rfl, -, -, -, -⟩ := h1
  obtain ⟨A2, c2, rfl, -, -, -, -⟩ := h2
  have hns : (ss.length : Int) ≤ 100000 := by have := ht.n; omega
  have hnw : (ws.length : Int) ≤ 100000 := by have := ht.m; omega
  have q0 := heap_alloc_self w (.cells #[.slice A1 ss.length c1, .slice A2 ws.length c2] 29)
  have qb := below_new w (.cells #[.slice A1 ss.length c1, .slice A2 ws.length c2] 29)
  have qs : (w.alloc (.cells #[.slice A1 ss.length c1, .slice A2 ws.length c2] 29)).heap.size = w.heap.size + 1 := by simp
  clear h ht
  go_enter Try.func44, Try.ntmps44
  go_wp2_with fail
  generalize w.alloc (.cells #[.slice A1 ss.length c1, .slice A2 ws.length c2] 29) = q at q0 qb qs ⊢
  have Q0 := Lib.hid q0
  have QB := Lib.hid qb
  have QS := Lib.hid qs
  clear q0 qb qs
  go_loopw [3, 4] (fun s3 s4 wr => ∃ i : Nat, i ≤ ss.length ∧ s4 = .int .i64 i ∧ s3 = .string (strB (told1 (ss.take i))) ∧ Below q.heap.size q wr) (fun _ s4 _ => ss.length - (intOf s4).toNat)
  case atStart => exact ⟨0, by omega, rfl, rfl, Below.refl _ _⟩
  case round =>
    obtain ⟨i, hi, rfl, rfl, hb⟩ := hrel
    have HB := Lib.hid hb
    have WB : Hid (Below w.heap.size w wr) := Lib.hid (QB.out.trans (hb.mono QB.out.size))
    have HX0 := Lib.hid ((hb.block _ (heap_lt Q0.out)).trans Q0.out)
    obtain ⟨x0, x1⟩ := cell2_of HX0.out
    clear hb
    by_cases hlt : i < ss.length
    · have hlt' : (i : Int) < ss.length := by omega
      obtain ⟨s, hse, sb, so, u, hA, hsb, hcs, ht⟩ : ∃ s, ss[i]? = some s ∧ ∃ sb so u, A1 = some ⟨sb, so, none⟩ ∧ sb < w.heap.size ∧ w.cell? ⟨sb, so + i, none⟩ = some u ∧ Txt w w.heap.size u s := ⟨ss[i], List.getElem?_eq_getElem hlt, H1.out.at hlt⟩
      subst hA
      have HTX := Lib.hid ht
      have hsn := told1_snoc hse
      have hlast := told1_take_le ss (i + 1)
      have hbnd : (told1 (ss.take (i + 1))).length ≤ 8000002 := by have := HT.out.l; omega
      obtain ⟨A3, c3, rfl, -, -, -, -⟩ := ht
      have HLS : Hid ((-9223372036854775808 : Int) ≤ (s.length : Int) ∧ (s.length : Int) ≤ 9223372036854775807) := Lib.hid (by have := HTX.out.le; unfold maxLen at this; omega)
      have hx1 : (told1 (ss.take i) ++ longT s.length).length ≤ 8000002 := by
        rw [hsn] at hbnd
        simp only [List.length_append] at hbnd ⊢
        omega
      have hadd1 := strB_add wr (told1 (ss.take i)) (longT s.length) _ rfl hx1
      have hadd2 := strB_add wr (told1 (ss.take i) ++ longT s.length) s (told1 (ss.take (i + 1))) (by rw [hsn, List.append_assoc]) hbnd
      obtain ⟨X0, hX0⟩ : ∃ X, X = strB (told1 (ss.take i)) := ⟨_, rfl⟩
      obtain ⟨X1, hX1⟩ : ∃ X, X = strB (told1 (ss.take i) ++ longT s.length) := ⟨_, rfl⟩
      obtain ⟨X2, hX2⟩ : ∃ X, X = strB (told1 (ss.take (i + 1))) := ⟨_, rfl⟩
      obtain ⟨XS, hXS⟩ : ∃ X, X = strB s := ⟨_, rfl⟩
      obtain ⟨XL, hXL⟩ : ∃ X, X = strB (longT s.length) := ⟨_, rfl⟩
      have HCV : Hid (∀ w', Below wr.heap.size wr w' → (convert 34 9 (.slice A3 s.length c3)).run Try.prog w' = .ok (.string XS) w') := Lib.hid (fun w' hb => by
        rw [hXS]
        exact run_txt_string ((HTX.out.below WB.out).below (hb.mono WB.out.size)))
      have HLG : Hid (∀ w' : World, Calls Try.prog 70 #[.int .i64 (s.length : Int)] w' fun e w2 => e = .returned (.string XL) ∧ Below w'.heap.size w' w2) := Lib.hid (fun w' => by rw [hXL]; exact long_any _ HLS.out w')
      have HX2 := Lib.hid hX2
      rw [← hX0, ← hXL, ← hX1] at hadd1
      rw [← hX1, ← hXS, ← hX2] at hadd2
      rw [← hX0]
      have HSB := Lib.hid hsb
      have HCS := Lib.hid hcs
      have HQL : Hid (w.heap.size < wr.heap.size) := Lib.hid (heap_lt HX0.out)
      clear hsn hlast hbnd hx1 hX0 hX1 hX2 hXS hXL hse hsb hcs hlt
      go_wp2_with fail
      refine wp_region_held_drew (S := fun v => Below wr.heap.size wr v) (by kernel_rfl) ((Below.refl _ wr).drew) (fun hHeld => ?_)
      refine wpAnyH_take (i := 0) (v := ?_) rfl (by kernel_rfl) (by kernel_rfl) (by kernel_rfl) (fun _ _ _ h => h) (Or.inl ⟨by rfl, ?_⟩) hHeld ?_
      rotate_left
      · intro w' hSw; go_simp; try with_reducible rfl
      simp only [List.getElem_toArray, List.getElem_cons_succ, List.getElem_cons_zero, Act.put, List.setIfInBounds_toArray, List.set_cons_zero, List.set_cons_succ]
      refine wpAnyH_take (i := 1) (v := ?_) rfl (by kernel_rfl) (by kernel_rfl) (by kernel_rfl) (fun _ _ _ h => h) (Or.inl ⟨by rfl, ?_⟩) hHeld ?_
      rotate_left
      · intro w' hSw; go_simp; try with_reducible rfl
      simp only [List.getElem_toArray, List.getElem_cons_succ, List.getElem_cons_zero, Act.put, List.setIfInBounds_toArray, List.set_cons_zero, List.set_cons_succ]
      refine wpAnyH_take (i := 2) (v := ?_) rfl (by kernel_rfl) (by kernel_rfl) (by kernel_rfl) (fun _ _ _ h => h) (Or.inl ⟨by rfl, ?_⟩) hHeld ?_
      rotate_left
      · intro w' hSw; obtain ⟨c0, c1⟩ := cell2_of (((show Below wr.heap.size wr w' from hSw).block w.heap.size HQL.out).trans HX0.out); go_simp; try with_reducible rfl
      simp only [List.getElem_toArray, List.getElem_cons_succ, List.getElem_cons_zero, Act.put, List.setIfInBounds_toArray, List.set_cons_zero, List.set_cons_succ]
      refine wpAnyH_take (i := 3) (v := ?_) rfl (by kernel_rfl) (by kernel_rfl) (by kernel_rfl) (fun _ _ _ h => h) (Or.inl ⟨by rfl, ?_⟩) hHeld ?_
      rotate_left
      · intro w' hSw; go_simp; try with_reducible rfl
      simp only [List.getElem_toArray, List.getElem_cons_succ, List.getElem_cons_zero, Act.put, List.setIfInBounds_toArray, List.set_cons_zero, List.set_cons_succ]
      refine wpAnyH_take (i := 4) (v := ?_) rfl (by kernel_rfl) (by kernel_rfl) (by kernel_rfl) (fun _ _ _ h => h) (Or.inl ⟨by rfl, ?_⟩) hHeld ?_
      rotate_left
      · intro w' hSw; go_simp; try with_reducible rfl
      simp only [List.getElem_toArray, List.getElem_cons_succ, List.getElem_cons_zero, Act.put, List.setIfInBounds_toArray, List.set_cons_zero, List.set_cons_succ]
      refine wpAnyH_take (i := 5) (v := ?_) rfl (by kernel_rfl) (by kernel_rfl) (by kernel_rfl) (fun _ _ _ h => h) (Or.inl ⟨by rfl, ?_⟩) hHeld ?_
      rotate_left
      · intro w' hSw; have cs := ((show Below wr.heap.size wr w' from hSw).cell (p := ⟨sb, so + i, none⟩) (Nat.lt_trans HSB.out HQL.out)).trans ((WB.out.cell (p := ⟨sb, so + i, none⟩) HSB.out).trans HCS.out); go_simp; try with_reducible rfl
      simp only [List.getElem_toArray, List.getElem_cons_succ, List.getElem_cons_zero, Act.put, List.setIfInBounds_toArray, List.set_cons_zero, List.set_cons_succ]
      refine wpAnyH_take (i := 6) (v := ?_) rfl (by kernel_rfl) (by kernel_rfl) (by kernel_rfl) (fun _ _ _ h => h) (Or.inl ⟨by rfl, ?_⟩) hHeld ?_
      rotate_left
      · intro w' hSw; go_simp; try with_reducible rfl
      simp only [List.getElem_toArray, List.getElem_cons_succ, List.getElem_cons_zero, Act.put, List.setIfInBounds_toArray, List.set_cons_zero, List.set_cons_succ]
      refine wpAnyH_take (i := 9) (v := ?_) rfl (by kernel_rfl) (by kernel_rfl) (by kernel_rfl) (fun _ _ _ h => h) (Or.inl ⟨by rfl, ?_⟩) hHeld ?_
      rotate_left
      · intro w' hSw; go_simp; try with_reducible rfl
      simp only [List.getElem_toArray, List.getElem_cons_succ, List.getElem_cons_zero, Act.put, List.setIfInBounds_toArray, List.set_cons_zero, List.set_cons_succ]
      refine wpAnyH_take (i := 10) (v := ?_) rfl (by kernel_rfl) (by kernel_rfl) (by kernel_rfl) (fun _ _ _ h => h) (Or.inl ⟨by rfl, ?_⟩) hHeld ?_
      rotate_left
      · intro w' hSw; obtain ⟨c0, c1⟩ := cell2_of (((show Below wr.heap.size wr w' from hSw).block w.heap.size HQL.out).trans HX0.out); go_simp; try with_reducible rfl
      simp only [List.getElem_toArray, List.getElem_cons_succ, List.getElem_cons_zero, Act.put, List.setIfInBounds_toArray, List.set_cons_zero, List.set_cons_succ]
      refine wpAnyH_take (i := 11) (v := ?_) rfl (by kernel_rfl) (by kernel_rfl) (by kernel_rfl) (fun _ _ _ h => h) (Or.inl ⟨by rfl, ?_⟩) hHeld ?_
      rotate_left
      · intro w' hSw; go_simp; try with_reducible rfl
      simp only [List.getElem_toArray, List.getElem_cons_succ, List.getElem_cons_zero, Act.put, List.setIfInBounds_toArray, List.set_cons_zero, List.set_cons_succ]
      refine wpAnyH_take (i := 12) (v := ?_) rfl (by kernel_rfl) (by kernel_rfl) (by kernel_rfl) (fun _ _ _ h => h) (Or.inl ⟨by rfl, ?_⟩) hHeld ?_
      rotate_left
      · intro w' hSw; go_simp; try with_reducible rfl
      simp only [List.getElem_toArray, List.getElem_cons_succ, List.getElem_cons_zero, Act.put, List.setIfInBounds_toArray, List.set_cons_zero, List.set_cons_succ]
      refine wpAnyH_take (i := 13) (v := ?_) rfl (by kernel_rfl) (by kernel_rfl) (by kernel_rfl) (fun _ _ _ h => h) (Or.inl ⟨by rfl, ?_⟩) hHeld ?_
      rotate_left
      · intro w' hSw; have cs := ((show Below wr.heap.size wr w' from hSw).cell (p := ⟨sb, so + i, none⟩) (Nat.lt_trans HSB.out HQL.out)).trans ((WB.out.cell (p := ⟨sb, so + i, none⟩) HSB.out).trans HCS.out); go_simp; try with_reducible rfl
      simp only [List.getElem_toArray, List.getElem_cons_succ, List.getElem_cons_zero, Act.put, List.setIfInBounds_toArray, List.set_cons_zero, List.set_cons_succ]
      refine wpAnyH_take (i := 14) (v := ?_) rfl (by kernel_rfl) (by kernel_rfl) (by kernel_rfl) (fun _ _ _ h => h) (Or.inl ⟨by rfl, ?_⟩) hHeld ?_
      rotate_left
      · intro w' hSw; have hcv := HCV.out w' (show Below wr.heap.size wr w' from hSw); go_simp; try with_reducible rfl
      simp only [List.getElem_toArray, List.getElem_cons_succ, List.getElem_cons_zero, Act.put, List.setIfInBounds_toArray, List.set_cons_zero, List.set_cons_succ]
      refine wpAnyH_ready (rs := [7]) (by kernel_rfl) (by simp) ?_
      refine AllReadyH.cons rfl (fun K hK => ?_) AllReadyH.nil
      go_simp
      refine (HLG.out wr.drew).mono ?_
      rintro e w2 ⟨rfl, bw2⟩
      have Bw2 : Hid (Below wr.heap.size wr w2) := Lib.hid ((Below.refl _ wr).drew.trans bw2)
      clear bw2
      try go_wp2_with fail
      refine hK.out _ _ ?_ (fun hHeld => ?_)
      · exact Bw2.out
      clear hK K
      try simp only [List.getElem_toArray, List.getElem_cons_succ, List.getElem_cons_zero, Act.put, List.setIfInBounds_toArray, List.set_cons_zero, List.set_cons_succ]
      refine wpAnyH_take (i := 8) (v := ?_) rfl (by kernel_rfl) (by kernel_rfl) (by kernel_rfl) (fun _ _ _ h => h) (Or.inl ⟨by rfl, ?_⟩) hHeld ?_
      rotate_left
      · intro w' hSw; have hadd := hadd1 w'; go_simp; try with_reducible rfl
      simp only [List.getElem_toArray, List.getElem_cons_succ, List.getElem_cons_zero, Act.put, List.setIfInBounds_toArray, List.set_cons_zero, List.set_cons_succ]
      refine wpAnyH_take (i := 15) (v := ?_) rfl (by kernel_rfl) (by kernel_rfl) (by kernel_rfl) (fun _ _ _ h => h) (Or.inl ⟨by rfl, ?_⟩) hHeld ?_
      rotate_left
      · intro w' hSw; have hadd := hadd2 w'; go_simp; try with_reducible rfl
      simp only [List.getElem_toArray, List.getElem_cons_succ, List.getElem_cons_zero, Act.put, List.setIfInBounds_toArray, List.set_cons_zero, List.set_cons_succ]
      refine wpAnyH_take (i := 16) (v := ?_) rfl (by kernel_rfl) (by kernel_rfl) (by kernel_rfl) (fun _ _ _ h => h) (Or.inl ⟨by rfl, ?_⟩) hHeld ?_
      rotate_left
      · intro w' hSw; go_simp; try with_reducible rfl
      simp only [List.getElem_toArray, List.getElem_cons_succ, List.getElem_cons_zero, Act.put, List.setIfInBounds_toArray, List.set_cons_zero, List.set_cons_succ]
      refine wpAnyH_done (by kernel_rfl) ?_ _
      clear hadd1 hadd2
      go_wp2_with fail
      go_roundw
      case measure => simp [intOf]; omega
      case rel => exact ⟨i + 1, by omega, by go_num, by rw [HX2.out], HB.out.trans (Bw2.out.mono HB.out.size)⟩
    · obtain rfl : i = ss.length := by omega
      have hlt' : ¬ ((ss.length : Int) < ss.length) := by omega
      rw [List.take_length]
      have hadd0 := strB_add wr (told1 ss) [124] (told1 ss ++ [124]) rfl (by have := HT.out.l; simp; omega)
      obtain ⟨X0, hX0⟩ : ∃ X, X = strB (told1 ss) := ⟨_, rfl⟩
      have hbar : strB [124] = { data := #[124] } := rfl
      rw [hbar, ← hX0] at hadd0
      rw [← hX0]
      obtain ⟨T1, hT1⟩ : ∃ T, T = told1 ss ++ [124] := ⟨_, rfl⟩
      have HT1 := Lib.hid hT1
      rw [← hT1] at hadd0
      have hT1l : T1.length + (told2 ws).length ≤ 8000001 := by rw [hT1]; have := HT.out.l; simp; omega
      have HT1L := Lib.hid hT1l
      clear hlt hi hX0 hbar hT1 hT1l
      go_wp2_with fail
      clear hadd0 x0 x1
      go_loopw [3, 5] (fun s3 s5 wx => ∃ k : Nat, k ≤ ws.length ∧ s5 = .int .i64 k ∧ s3 = .string (strB (T1 ++ told2 (ws.take k))) ∧ Below q.heap.size q wx) (fun _ s5 _ => ws.length - (intOf s5).toNat)
      case atStart => exact ⟨0, by omega, rfl, by simp [told2], HB.out⟩
      case round =>
        obtain ⟨i, hi, rfl, rfl, hb⟩ := hrel
        clear HB WB HX0
        have HB := Lib.hid hb
        have WB : Hid (Below w.heap.size w wr) := Lib.hid (QB.out.trans (hb.mono QB.out.size))
        have HX0 := Lib.hid ((hb.block _ (heap_lt Q0.out)).trans Q0.out)
        obtain ⟨x0, x1⟩ := cell2_of HX0.out
        clear hb
        by_cases hlt : i < ws.length
        · have hlt' : (i : Int) < ws.length := by omega
          obtain ⟨x, hse, hxm, sb, so, u, hA, hsb, hci, hcs, ht⟩ : ∃ x, ws[i]? = some x ∧ x ∈ ws ∧ ∃ sb so u, A2 = some ⟨sb, so, none⟩ ∧ sb < w.heap.size ∧ w.cell? ⟨sb, so + i * 2, none⟩ = some (.int .i64 x.1) ∧ w.cell? ⟨sb, so + i * 2 + 1, none⟩ = some u ∧ Txt w w.heap.size u x.2 := ⟨ws[i], List.getElem?_eq_getElem hlt, List.getElem_mem hlt, H2.out.at hlt⟩
          subst hA
          have HTX := Lib.hid ht
          have hsn := told2_snoc hse
          have hlast := told2_take_le ws (i + 1)
          have hbnd : (T1 ++ told2 (ws.take (i + 1))).length ≤ 8000002 := by rw [List.length_append]; have := HT1L.out; omega
          obtain ⟨A3, c3, rfl, -, -, -, -⟩ := ht
          have HLS : Hid ((-9223372036854775808 : Int) ≤ (x.2.length : Int) ∧ (x.2.length : Int) ≤ 9223372036854775807) := Lib.hid (by have := HTX.out.le; unfold maxLen at this; omega)
          have HLA := Lib.hid (HT.out.a x hxm)
          have hx2 : (T1 ++ told2 (ws.take i) ++ longT x.1 ++ longT x.2.length).length ≤ 8000002 := by
            rw [hsn] at hbnd
            simp only [List.length_append] at hbnd ⊢
            omega
          have hx1 : (T1 ++ told2 (ws.take i) ++ longT x.1).length ≤ 8000002 := by
            simp only [List.length_append] at hx2 ⊢
            omega
          have hadd1 := strB_add wr (T1 ++ told2 (ws.take i)) (longT x.1) _ rfl hx1
          have hadd2 := strB_add wr (T1 ++ told2 (ws.take i) ++ longT x.1) (longT x.2.length) _ rfl hx2
          have hadd3 := strB_add wr (T1 ++ told2 (ws.take i) ++ longT x.1 ++ longT x.2.length) x.2 (T1 ++ told2 (ws.take (i + 1))) (by rw [hsn]; simp only [List.append_assoc]) hbnd
          obtain ⟨X0, hX0⟩ : ∃ X, X = strB (T1 ++ told2 (ws.take i)) := ⟨_, rfl⟩
          obtain ⟨X1, hX1⟩ : ∃ X, X = strB (T1 ++ told2 (ws.take i) ++ longT x.1) := ⟨_, rfl⟩
          obtain ⟨X2, hX2⟩ : ∃ X, X = strB (T1 ++ told2 (ws.take i) ++ longT x.1 ++ longT x.2.length) := ⟨_, rfl⟩
          obtain ⟨X3, hX3⟩ : ∃ X, X = strB (T1 ++ told2 (ws.take (i + 1))) := ⟨_, rfl⟩
          obtain ⟨XS, hXS⟩ : ∃ X, X = strB x.2 := ⟨_, rfl⟩
          obtain ⟨XA, hXA⟩ : ∃ X, X = strB (longT x.1) := ⟨_, rfl⟩
          obtain ⟨XL, hXL⟩ : ∃ X, X = strB (longT x.2.length) := ⟨_, rfl⟩
          have HCV : Hid (∀ w', Below wr.heap.size wr w' → (convert 34 9 (.slice A3 x.2.length c3)).run Try.prog w' = .ok (.string XS) w') := Lib.hid (fun w' hb => by
            rw [hXS]
            exact run_txt_string ((HTX.out.below WB.out).below (hb.mono WB.out.size)))
          have HLG : Hid (∀ w' : World, Calls Try.prog 70 #[.int .i64 (x.2.length : Int)] w' fun e w2 => e = .returned (.string XL) ∧ Below w'.heap.size w' w2) := Lib.hid (fun w' => by rw [hXL]; exact long_any _ HLS.out w')
          have HLB : Hid (∀ w' : World, Calls Try.prog 70 #[.int .i64 x.1] w' fun e w2 => e = .returned (.string XA) ∧ Below w'.heap.size w' w2) := Lib.hid (fun w' => by rw [hXA]; exact long_any _ HLA.out w')
          have HX3 := Lib.hid hX3
          rw [← hX0, ← hXA, ← hX1] at hadd1
          rw [← hX1, ← hXL, ← hX2] at hadd2
          rw [← hX2, ← hXS, ← hX3] at hadd3
          rw [← hX0]
          have HSB := Lib.hid hsb
          have HCS := Lib.hid hcs
          have HCI := Lib.hid hci
          have HQL : Hid (w.heap.size < wr.heap.size) := Lib.hid (heap_lt HX0.out)
          clear hsn hlast hbnd hx1 hx2 hX0 hX1 hX2 hX3 hXS hXA hXL hse hsb hcs hci hlt hxm
          go_wp2_with fail
          refine wp_region_held_drew (S := fun v => Below wr.heap.size wr v) (by kernel_rfl) ((Below.refl _ wr).drew) (fun hHeld => ?_)
          refine wpAnyH_take (i := 0) (v := ?_) rfl (by kernel_rfl) (by kernel_rfl) (by kernel_rfl) (fun _ _ _ h => h) (Or.inl ⟨by rfl, ?_⟩) hHeld ?_
          rotate_left
          · intro w' hSw; go_simp; try with_reducible rfl
          simp only [List.getElem_toArray, List.getElem_cons_succ, List.getElem_cons_zero, Act.put, List.setIfInBounds_toArray, List.set_cons_zero, List.set_cons_succ]
          refine wpAnyH_take (i := 1) (v := ?_) rfl (by kernel_rfl) (by kernel_rfl) (by kernel_rfl) (fun _ _ _ h => h) (Or.inl ⟨by rfl, ?_⟩) hHeld ?_
          rotate_left
          · intro w' hSw; go_simp; try with_reducible rfl
          simp only [List.getElem_toArray, List.getElem_cons_succ, List.getElem_cons_zero, Act.put, List.setIfInBounds_toArray, List.set_cons_zero, List.set_cons_succ]
          refine wpAnyH_take (i := 2) (v := ?_) rfl (by kernel_rfl) (by kernel_rfl) (by kernel_rfl) (fun _ _ _ h => h) (Or.inl ⟨by rfl, ?_⟩) hHeld ?_
          rotate_left
          · intro w' hSw; obtain ⟨c0, c1⟩ := cell2_of (((show Below wr.heap.size wr w' from hSw).block w.heap.size HQL.out).trans HX0.out); go_simp; try with_reducible rfl
          simp only [List.getElem_toArray, List.getElem_cons_succ, List.getElem_cons_zero, Act.put, List.setIfInBounds_toArray, List.set_cons_zero, List.set_cons_succ]
          refine wpAnyH_take (i := 3) (v := ?_) rfl (by kernel_rfl) (by kernel_rfl) (by kernel_rfl) (fun _ _ _ h => h) (Or.inl ⟨by rfl, ?_⟩) hHeld ?_
          rotate_left
          · intro w' hSw; go_simp; try with_reducible rfl
          simp only [List.getElem_toArray, List.getElem_cons_succ, List.getElem_cons_zero, Act.put, List.setIfInBounds_toArray, List.set_cons_zero, List.set_cons_succ]
          refine wpAnyH_take (i := 4) (v := ?_) rfl (by kernel_rfl) (by kernel_rfl) (by kernel_rfl) (fun _ _ _ h => h) (Or.inl ⟨by rfl, ?_⟩) hHeld ?_
          rotate_left
          · intro w' hSw; go_simp; try with_reducible rfl
          simp only [List.getElem_toArray, List.getElem_cons_succ, List.getElem_cons_zero, Act.put, List.setIfInBounds_toArray, List.set_cons_zero, List.set_cons_succ]
          refine wpAnyH_take (i := 5) (v := ?_) rfl (by kernel_rfl) (by kernel_rfl) (by kernel_rfl) (fun _ _ _ h => h) (Or.inl ⟨by rfl, ?_⟩) hHeld ?_
          rotate_left
          · intro w' hSw; go_simp; try with_reducible rfl
          simp only [List.getElem_toArray, List.getElem_cons_succ, List.getElem_cons_zero, Act.put, List.setIfInBounds_toArray, List.set_cons_zero, List.set_cons_succ]
          refine wpAnyH_take (i := 6) (v := ?_) rfl (by kernel_rfl) (by kernel_rfl) (by kernel_rfl) (fun _ _ _ h => h) (Or.inl ⟨by rfl, ?_⟩) hHeld ?_
          rotate_left
          · intro w' hSw; have cs := ((show Below wr.heap.size wr w' from hSw).cell (p := ⟨sb, so + i * 2, none⟩) (Nat.lt_trans HSB.out HQL.out)).trans ((WB.out.cell (p := ⟨sb, so + i * 2, none⟩) HSB.out).trans HCI.out); go_simp; try with_reducible rfl
          simp only [List.getElem_toArray, List.getElem_cons_succ, List.getElem_cons_zero, Act.put, List.setIfInBounds_toArray, List.set_cons_zero, List.set_cons_succ]
          refine wpAnyH_take (i := 9) (v := ?_) rfl (by kernel_rfl) (by kernel_rfl) (by kernel_rfl) (fun _ _ _ h => h) (Or.inl ⟨by rfl, ?_⟩) hHeld ?_
          rotate_left
          · intro w' hSw; go_simp; try with_reducible rfl
          simp only [List.getElem_toArray, List.getElem_cons_succ, List.getElem_cons_zero, Act.put, List.setIfInBounds_toArray, List.set_cons_zero, List.set_cons_succ]
          refine wpAnyH_take (i := 10) (v := ?_) rfl (by kernel_rfl) (by kernel_rfl) (by kernel_rfl) (fun _ _ _ h => h) (Or.inl ⟨by rfl, ?_⟩) hHeld ?_
          rotate_left
          · intro w' hSw; obtain ⟨c0, c1⟩ := cell2_of (((show Below wr.heap.size wr w' from hSw).block w.heap.size HQL.out).trans HX0.out); go_simp; try with_reducible rfl
          simp only [List.getElem_toArray, List.getElem_cons_succ, List.getElem_cons_zero, Act.put, List.setIfInBounds_toArray, List.set_cons_zero, List.set_cons_succ]
          refine wpAnyH_take (i := 11) (v := ?_) rfl (by kernel_rfl) (by kernel_rfl) (by kernel_rfl) (fun _ _ _ h => h) (Or.inl ⟨by rfl, ?_⟩) hHeld ?_
          rotate_left
          · intro w' hSw; go_simp; try with_reducible rfl
          simp only [List.getElem_toArray, List.getElem_cons_succ, List.getElem_cons_zero, Act.put, List.setIfInBounds_toArray, List.set_cons_zero, List.set_cons_succ]
          refine wpAnyH_take (i := 12) (v := ?_) rfl (by kernel_rfl) (by kernel_rfl) (by kernel_rfl) (fun _ _ _ h => h) (Or.inl ⟨by rfl, ?_⟩) hHeld ?_
          rotate_left
          · intro w' hSw; go_simp; try with_reducible rfl
          simp only [List.getElem_toArray, List.getElem_cons_succ, List.getElem_cons_zero, Act.put, List.setIfInBounds_toArray, List.set_cons_zero, List.set_cons_succ]
          refine wpAnyH_take (i := 13) (v := ?_) rfl (by kernel_rfl) (by kernel_rfl) (by kernel_rfl) (fun _ _ _ h => h) (Or.inl ⟨by rfl, ?_⟩) hHeld ?_
          rotate_left
          · intro w' hSw; go_simp; try with_reducible rfl
          simp only [List.getElem_toArray, List.getElem_cons_succ, List.getElem_cons_zero, Act.put, List.setIfInBounds_toArray, List.set_cons_zero, List.set_cons_succ]
          refine wpAnyH_take (i := 14) (v := ?_) rfl (by kernel_rfl) (by kernel_rfl) (by kernel_rfl) (fun _ _ _ h => h) (Or.inl ⟨by rfl, ?_⟩) hHeld ?_
          rotate_left
          · intro w' hSw; have cs := ((show Below wr.heap.size wr w' from hSw).cell (p := ⟨sb, so + i * 2 + 1, none⟩) (Nat.lt_trans HSB.out HQL.out)).trans ((WB.out.cell (p := ⟨sb, so + i * 2 + 1, none⟩) HSB.out).trans HCS.out); go_simp; try with_reducible rfl
          simp only [List.getElem_toArray, List.getElem_cons_succ, List.getElem_cons_zero, Act.put, List.setIfInBounds_toArray, List.set_cons_zero, List.set_cons_succ]
          refine wpAnyH_take (i := 15) (v := ?_) rfl (by kernel_rfl) (by kernel_rfl) (by kernel_rfl) (fun _ _ _ h => h) (Or.inl ⟨by rfl, ?_⟩) hHeld ?_
          rotate_left
          · intro w' hSw; go_simp; try with_reducible rfl
          simp only [List.getElem_toArray, List.getElem_cons_succ, List.getElem_cons_zero, Act.put, List.setIfInBounds_toArray, List.set_cons_zero, List.set_cons_succ]
          refine wpAnyH_take (i := 18) (v := ?_) rfl (by kernel_rfl) (by kernel_rfl) (by kernel_rfl) (fun _ _ _ h => h) (Or.inl ⟨by rfl, ?_⟩) hHeld ?_
          rotate_left
          · intro w' hSw; go_simp; try with_reducible rfl
          simp only [List.getElem_toArray, List.getElem_cons_succ, List.getElem_cons_zero, Act.put, List.setIfInBounds_toArray, List.set_cons_zero, List.set_cons_succ]
          refine wpAnyH_take (i := 19) (v := ?_) rfl (by kernel_rfl) (by kernel_rfl) (by kernel_rfl) (fun _ _ _ h => h) (Or.inl ⟨by rfl, ?_⟩) hHeld ?_
          rotate_left
          · intro w' hSw; obtain ⟨c0, c1⟩ := cell2_of (((show Below wr.heap.size wr w' from hSw).block w.heap.size HQL.out).trans HX0.out); go_simp; try with_reducible rfl
          simp only [List.getElem_toArray, List.getElem_cons_succ, List.getElem_cons_zero, Act.put, List.setIfInBounds_toArray, List.set_cons_zero, List.set_cons_succ]
          refine wpAnyH_take (i := 20) (v := ?_) rfl (by kernel_rfl) (by kernel_rfl) (by kernel_rfl) (fun _ _ _ h => h) (Or.inl ⟨by rfl, ?_⟩) hHeld ?_
          rotate_left
          · intro w' hSw; go_simp; try with_reducible rfl
          simp only [List.getElem_toArray, List.getElem_cons_succ, List.getElem_cons_zero, Act.put, List.setIfInBounds_toArray, List.set_cons_zero, List.set_cons_succ]
          refine wpAnyH_take (i := 21) (v := ?_) rfl (by kernel_rfl) (by kernel_rfl) (by kernel_rfl) (fun _ _ _ h => h) (Or.inl ⟨by rfl, ?_⟩) hHeld ?_
          rotate_left
          · intro w' hSw; go_simp; try with_reducible rfl
          simp only [List.getElem_toArray, List.getElem_cons_succ, List.getElem_cons_zero, Act.put, List.setIfInBounds_toArray, List.set_cons_zero, List.set_cons_succ]
          refine wpAnyH_take (i := 22) (v := ?_) rfl (by kernel_rfl) (by kernel_rfl) (by kernel_rfl) (fun _ _ _ h => h) (Or.inl ⟨by rfl, ?_⟩) hHeld ?_
          rotate_left
          · intro w' hSw; go_simp; try with_reducible rfl
          simp only [List.getElem_toArray, List.getElem_cons_succ, List.getElem_cons_zero, Act.put, List.setIfInBounds_toArray, List.set_cons_zero, List.set_cons_succ]
          refine wpAnyH_take (i := 23) (v := ?_) rfl (by kernel_rfl) (by kernel_rfl) (by kernel_rfl) (fun _ _ _ h => h) (Or.inl ⟨by rfl, ?_⟩) hHeld ?_
          rotate_left
          · intro w' hSw; have cs := ((show Below wr.heap.size wr w' from hSw).cell (p := ⟨sb, so + i * 2 + 1, none⟩) (Nat.lt_trans HSB.out HQL.out)).trans ((WB.out.cell (p := ⟨sb, so + i * 2 + 1, none⟩) HSB.out).trans HCS.out); go_simp; try with_reducible rfl
          simp only [List.getElem_toArray, List.getElem_cons_succ, List.getElem_cons_zero, Act.put, List.setIfInBounds_toArray, List.set_cons_zero, List.set_cons_succ]
          refine wpAnyH_take (i := 24) (v := ?_) rfl (by kernel_rfl) (by kernel_rfl) (by kernel_rfl) (fun _ _ _ h => h) (Or.inl ⟨by rfl, ?_⟩) hHeld ?_
          rotate_left
          · intro w' hSw; have hcv := HCV.out w' (show Below wr.heap.size wr w' from hSw); go_simp; try with_reducible rfl
          simp only [List.getElem_toArray, List.getElem_cons_succ, List.getElem_cons_zero, Act.put, List.setIfInBounds_toArray, List.set_cons_zero, List.set_cons_succ]
          refine wpAnyH_ready (rs := [7]) (by kernel_rfl) (by simp) ?_
          refine AllReadyH.cons rfl (fun K hK => ?_) AllReadyH.nil
          go_simp
          refine (HLB.out wr.drew).mono ?_
          rintro e w2 ⟨rfl, bw2⟩
          have Bw2 : Hid (Below wr.heap.size wr w2) := Lib.hid ((Below.refl _ wr).drew.trans bw2)
          clear bw2
          try go_wp2_with fail
          refine hK.out _ _ ?_ (fun hHeld => ?_)
          · exact Bw2.out
          clear hK K
          try simp only [List.getElem_toArray, List.getElem_cons_succ, List.getElem_cons_zero, Act.put, List.setIfInBounds_toArray, List.set_cons_zero, List.set_cons_succ]
          refine wpAnyH_take (i := 8) (v := ?_) rfl (by kernel_rfl) (by kernel_rfl) (by kernel_rfl) (fun _ _ _ h => h) (Or.inl ⟨by rfl, ?_⟩) hHeld ?_
          rotate_left
          · intro w' hSw; have hadd := hadd1 w'; go_simp; try with_reducible rfl
          simp only [List.getElem_toArray, List.getElem_cons_succ, List.getElem_cons_zero, Act.put, List.setIfInBounds_toArray, List.set_cons_zero, List.set_cons_succ]
          refine wpAnyH_ready (rs := [16]) (by kernel_rfl) (by simp) ?_
          refine AllReadyH.cons rfl (fun K hK => ?_) AllReadyH.nil
          go_simp
          refine (HLG.out w2).mono ?_
          rintro e w3 ⟨rfl, bw3⟩
          have Bw3 : Hid (Below wr.heap.size wr w3) := Lib.hid (Bw2.out.trans (bw3.mono Bw2.out.size))
          clear bw3
          try go_wp2_with fail
          refine hK.out _ _ ?_ (fun hHeld => ?_)
          · exact Bw3.out
          clear hK K
          try simp only [List.getElem_toArray, List.getElem_cons_succ, List.getElem_cons_zero, Act.put, List.setIfInBounds_toArray, List.set_cons_zero, List.set_cons_succ]
          refine wpAnyH_take (i := 17) (v := ?_) rfl (by kernel_rfl) (by kernel_rfl) (by kernel_rfl) (fun _ _ _ h => h) (Or.inl ⟨by rfl, ?_⟩) hHeld ?_
          rotate_left
          · intro w' hSw; have hadd := hadd2 w'; go_simp; try with_reducible rfl
          simp only [List.getElem_toArray, List.getElem_cons_succ, List.getElem_cons_zero, Act.put, List.setIfInBounds_toArray, List.set_cons_zero, List.set_cons_succ]
          refine wpAnyH_take (i := 25) (v := ?_) rfl (by kernel_rfl) (by kernel_rfl) (by kernel_rfl) (fun _ _ _ h => h) (Or.inl ⟨by rfl, ?_⟩) hHeld ?_
          rotate_left
          · intro w' hSw; have hadd := hadd3 w'; go_simp; try with_reducible rfl
          simp only [List.getElem_toArray, List.getElem_cons_succ, List.getElem_cons_zero, Act.put, List.setIfInBounds_toArray, List.set_cons_zero, List.set_cons_succ]
          refine wpAnyH_take (i := 26) (v := ?_) rfl (by kernel_rfl) (by kernel_rfl) (by kernel_rfl) (fun _ _ _ h => h) (Or.inl ⟨by rfl, ?_⟩) hHeld ?_
          rotate_left
          · intro w' hSw; go_simp; try with_reducible rfl
          simp only [List.getElem_toArray, List.getElem_cons_succ, List.getElem_cons_zero, Act.put, List.setIfInBounds_toArray, List.set_cons_zero, List.set_cons_succ]
          refine wpAnyH_done (by kernel_rfl) ?_ _
          clear hadd1 hadd2 hadd3
          go_wp2_with fail
          go_roundw
          case measure => simp [intOf]; omega
          case rel => exact ⟨i + 1, by omega, by go_num, by rw [HX3.out], HB.out.trans (Bw3.out.mono HB.out.size)⟩
        · obtain rfl : i = ws.length := by omega
          have hlt' : ¬ ((ws.length : Int) < ws.length) := by omega
          have hend : T1 ++ told2 (ws.take ws.length) = toldD ss ws := by rw [List.take_length, HT1.out, toldD, List.append_assoc]; rfl
          rw [hend]
          obtain ⟨X0, hX0⟩ : ∃ X, X = strB (toldD ss ws) := ⟨_, rfl⟩
          rw [← hX0]
          have HXE := Lib.hid hX0
          clear hend hlt hi hX0
          go_wp2_with fail
          go_ret
          exact ⟨by rw [← HXE.out]; rfl, WB.out⟩
end Go.Proofs.Ytdjoflhcagfmiaa

/-
  The document's own functions: Great, with what it leaves.
  Conditions: each list is as long as a list may be that is read before the call.
-/
set_option linter.unusedVariables false
set_option linter.unusedSimpArgs false
set_option maxRecDepth 100000
namespace Go.Proofs.Ytdjoflhcagfmiaa
open Go.RowKit

def sumS (ss : List Bs) : Nat := (ss.map List.length).sum
def sumW (ws : List Wr) : Nat := (ws.map fun x => x.2.length).sum
theorem sumS_snoc {ss : List Bs} {i : Nat} {s : Bs} (h : ss[i]? = some s) : sumS (ss.take (i + 1)) = sumS (ss.take i) + s.length := by
  rw [List.take_add_one, h]
  simp [sumS]
theorem sumW_snoc {ws : List Wr} {i : Nat} {x : Wr} (h : ws[i]? = some x) : sumW (ws.take (i + 1)) = sumW (ws.take i) + x.2.length := by
  rw [List.take_add_one, h]
  simp [sumW]
theorem sumS_mem : ∀ {ss : List Bs} {s : Bs}, s ∈ ss → s.length ≤ sumS ss
  | a :: ss, s, h => by
    simp only [sumS, List.map_cons, List.sum_cons]
    rcases List.mem_cons.1 h with rfl | h
    · omega
    · have := sumS_mem h
      unfold sumS at this
      omega
theorem sumW_mem : ∀ {ws : List Wr} {x : Wr}, x ∈ ws → x.2.length ≤ sumW ws
  | a :: ws, x, h => by
    simp only [sumW, List.map_cons, List.sum_cons]
    rcases List.mem_cons.1 h with rfl | h
    · omega
    · have := sumW_mem h
      unfold sumW at this
      omega
theorem told1_sum : ∀ (ss : List Bs), (told1 ss).length = 9 * ss.length + sumS ss
  | [] => rfl
  | s :: ss => by
    have e : told1 (s :: ss) = toldS s ++ told1 ss := by simp [told1]
    rw [e, List.length_append, toldS_length, told1_sum ss]
    simp only [sumS, List.map_cons, List.sum_cons, List.length_cons]
    omega
theorem told2_sum : ∀ (ws : List Wr), (told2 ws).length = 18 * ws.length + sumW ws
  | [] => rfl
  | s :: ss => by
    have e : told2 (s :: ss) = toldW s ++ told2 ss := by simp [told2]
    rw [e, List.length_append, toldW_length, told2_sum ss]
    simp only [sumW, List.map_cons, List.sum_cons, List.length_cons]
    omega
/-- A disk that is not great. -/
structure Small (ss : List Bs) (ws : List Wr) : Prop where
  n : ss.length + ws.length ≤ 600
  t : sumS ss + sumW ws ≤ 200000
theorem Small.tells {ss : List Bs} {ws : List Wr} (h : Small ss ws) (hr : Reach47 ss ws) : Tells ss ws :=
  ⟨by have := h.n; omega, by have := h.n; omega, by rw [told1_sum, told2_sum]; have := h.n; have := h.t; omega, fun x hx => (hr.w x hx).2⟩
theorem Small.fits {ss : List Bs} {ws : List Wr} (h : Small ss ws) : Fits ss ws :=
  ⟨by have := h.n; omega, by have := h.n; omega, fun s hs => by have := sumS_mem hs; have := h.t; omega, fun x hx => by have := sumW_mem hx; have := h.t; omega⟩
def GreatSaid (ss : List Bs) (ws : List Wr) (e : Ending) : Prop := ∃ g : Bool, e = .returned (.bool g) ∧ (g = false → Small ss ws)

set_option maxHeartbeats 8000000 in
theorem great_small (d : Value) (ss : List Bs) (ws : List Wr) (w : World) (h : DiskIn w w.heap.size d ss ws) (hr : Reach47 ss ws) :
    Calls Try.prog 15 #[d] w fun e w' => GreatSaid ss ws e ∧ Below w.heap.size w w' := by
  obtain ⟨v1, v2, rfl, h1, h2⟩ := h
  have H1 := Lib.hid h1
  have H2 := Lib.hid h2
  have HR := Lib.hid hr
  obtain ⟨A1, c1, rfl, -, -, -, -⟩ := h1
  obtain ⟨A2, c2, rfl, -, -, -, -⟩ := h2
  have hb1 := heap_alloc_self w (.cells #[.slice A1 ss.length c1, .slice A2 ws.length c2] 29)
  have HB0 := Lib.hid (below_new w (.cells #[.slice A1 ss.length c1, .slice A2 ws.length c2] 29))
  have hns : (ss.length : Int) ≤ 140737488351232 := by have := hr.n; omega
  have hnw : (ws.length : Int) ≤ 140737488351232 := by have := hr.m; omega
  clear hr
  go_enter Try.func15, Try.ntmps15
  go_wp2_with fail
  generalize w.alloc (.cells #[.slice A1 ss.length c1, .slice A2 ws.length c2] 29) = w1 at HB0 hb1 ⊢
  have C1 := Lib.hid hb1
  clear hb1
  go_loopw [3, 4] (fun s3 s4 wr => ∃ (i n : Nat), i ≤ ss.length ∧ s3 = .int .i64 (n : Int) ∧ s4 = .int .i64 i ∧ n ≤ 422212465053696 ∧ Hid (n = ss.length + ws.length + sumS (ss.take i)) ∧ wr = w1) (fun _ s4 _ => ss.length - (intOf s4).toNat)
  case atStart => exact ⟨0, ss.length + ws.length, by omega, by go_num, rfl, by omega, Lib.hid (by simp [sumS]), by first | rfl | trivial⟩
  case round =>
    obtain ⟨i, n, hi, rfl, rfl, hb, NE, rfl⟩ := hrel
    obtain ⟨k0, k1⟩ := cell2_of C1.out
    rcases (by omega : (i < ss.length ∧ n ≤ 200000) ∨ (i < ss.length ∧ ¬ n ≤ 200000) ∨ ¬ i < ss.length) with ⟨hlt, hn'⟩ | hno
    · have hlt' : (i : Int) < ss.length := by omega
      obtain ⟨s, hse, hsr, b, off, u, hA, hbb, hc, ht⟩ : ∃ s, ss[i]? = some s ∧ s.length ≤ 140737488351232 ∧ ∃ b off u, A1 = some ⟨b, off, none⟩ ∧ b < w.heap.size ∧ wr.cell? ⟨b, off + i, none⟩ = some u ∧ Txt wr w.heap.size u s := ⟨ss[i], List.getElem?_eq_getElem hlt, HR.out.s _ (List.getElem_mem hlt), (H1.out.below HB0.out).at hlt⟩
      subst hA
      obtain ⟨A3, c3, rfl, -, -, -, -⟩ := ht
      have hsn := sumS_snoc hse
      have HSN := Lib.hid hsn
      have hn2 : (n : Int) ≤ 200000 := by omega
      have hsr' : (s.length : Int) ≤ 140737488351232 := by omega
      clear hsn hse hlt
      go_wp2_with fail
      go_roundw
      case measure => simp [intOf]; omega
      case rel => exact ⟨i + 1, n + s.length, by omega, by go_num, by go_num, by omega, Lib.hid (by rw [HSN.out, NE.out]; omega), by first | rfl | trivial⟩
    · rcases hno with ⟨hlt, hn'⟩ | hlt
      · have EX : Hid (i = ss.length ∨ 200000 < n) := Lib.hid (.inr (by omega))
        have hlt' : (i : Int) < ss.length := by omega
        have hn3 : ¬ (n : Int) ≤ 200000 := by omega
        clear hlt hn'
        go_wp2_with fail
        clear k0 k1 hlt' hn3
        go_loopw [3, 5] (fun s3 s5 wx => ∃ (k n2 : Nat), k ≤ ws.length ∧ s3 = .int .i64 (n2 : Int) ∧ s5 = .int .i64 k ∧ n2 ≤ 562949953404928 ∧ Hid (n2 = n + sumW (ws.take k)) ∧ wx = wr) (fun _ s5 _ => ws.length - (intOf s5).toNat)
        case atStart => exact ⟨0, n, by omega, rfl, rfl, by omega, Lib.hid (by simp [sumW]), by first | rfl | trivial⟩
        case round =>
          obtain ⟨k, n2, hk, rfl, rfl, hb2, hn2e, rfl⟩ := hrel
          obtain ⟨k0, k1⟩ := cell2_of C1.out
          rcases (by omega : (k < ws.length ∧ n2 ≤ 200000) ∨ (k < ws.length ∧ ¬ n2 ≤ 200000) ∨ ¬ k < ws.length) with ⟨hkt, hn2⟩ | hno
          · have hkt' : (k : Int) < ws.length := by omega
            obtain ⟨x, hxe, hxr, b, off, u, hA, hbb, hc0, hc, ht⟩ : ∃ x, ws[k]? = some x ∧ x.2.length ≤ 140737488351232 ∧ ∃ b off u, A2 = some ⟨b, off, none⟩ ∧ b < w.heap.size ∧ wr.cell? ⟨b, off + k * 2, none⟩ = some (.int .i64 x.1) ∧ wr.cell? ⟨b, off + k * 2 + 1, none⟩ = some u ∧ Txt wr w.heap.size u x.2 := ⟨ws[k], List.getElem?_eq_getElem hkt, (HR.out.w _ (List.getElem_mem hkt)).1, (H2.out.below HB0.out).at hkt⟩
            subst hA
            obtain ⟨A3, c3, rfl, -, -, -, -⟩ := ht
            have hsn := sumW_snoc hxe
            have HSN := Lib.hid hsn
            have hn2' : (n2 : Int) ≤ 200000 := by omega
            have hxr' : (x.2.length : Int) ≤ 140737488351232 := by omega
            clear hsn hxe hkt
            go_wp2_with fail
            go_roundw
            case measure => simp [intOf]; omega
            case rel => exact ⟨k + 1, n2 + x.2.length, by omega, by go_num, by go_num, by omega, Lib.hid (by rw [HSN.out, hn2e.out]; omega), by first | rfl | trivial⟩
          · rcases hno with ⟨hkt, hn2⟩ | hkt
            · have hkt' : (k : Int) < ws.length := by omega
              have hn3 : ¬ (n2 : Int) ≤ 200000 := by omega
              have hn4 : (200000 : Int) < n2 := by omega
              clear hkt hn2
              go_wp2_with fail
              go_ret
              exact ⟨⟨_, rfl, fun h => by cases h⟩, HB0.out⟩
            · have hkt' : ¬ (k : Int) < ws.length := by omega
              by_cases hn3 : 200000 < n2
              · have hn4 : (200000 : Int) < n2 := by omega
                clear hn3 hkt
                go_wp2_with fail
                go_ret
                exact ⟨⟨_, rfl, fun h => by cases h⟩, HB0.out⟩
              · have hn4 : ¬ (200000 : Int) < n2 := by omega
                by_cases hcnt : 600 < ss.length + ws.length
                · have hc4 : (600 : Int) < (ss.length : Int) + ws.length := by omega
                  clear hn3 hkt hcnt
                  go_wp2_with fail
                  go_ret
                  exact ⟨⟨_, rfl, fun h => by cases h⟩, HB0.out⟩
                · have hc4 : ¬ (600 : Int) < (ss.length : Int) + ws.length := by omega
                  have HSM : Hid (Small ss ws) := Lib.hid ⟨by omega, by
                    have e1 := hn2e.out
                    have e2 := NE.out
                    have e3 : k = ws.length := by omega
                    have e4 : i = ss.length := by rcases EX.out with h | h <;> omega
                    subst e3 e4
                    rw [List.take_length] at e1 e2
                    omega⟩
                  clear hn3 hkt hcnt
                  go_wp2_with fail
                  go_ret
                  exact ⟨⟨_, rfl, fun _ => HSM.out⟩, HB0.out⟩
      · have EX : Hid (i = ss.length ∨ 200000 < n) := Lib.hid (.inl (by omega))
        have hlt' : ¬ (i : Int) < ss.length := by omega
        clear hlt
        go_wp2_with fail
        clear k0 k1 hlt'
        go_loopw [3, 5] (fun s3 s5 wx => ∃ (k n2 : Nat), k ≤ ws.length ∧ s3 = .int .i64 (n2 : Int) ∧ s5 = .int .i64 k ∧ n2 ≤ 562949953404928 ∧ Hid (n2 = n + sumW (ws.take k)) ∧ wx = wr) (fun _ s5 _ => ws.length - (intOf s5).toNat)
        case atStart => exact ⟨0, n, by omega, rfl, rfl, by omega, Lib.hid (by simp [sumW]), by first | rfl | trivial⟩
        case round =>
          obtain ⟨k, n2, hk, rfl, rfl, hb2, hn2e, rfl⟩ := hrel
          obtain ⟨k0, k1⟩ := cell2_of C1.out
          rcases (by omega : (k < ws.length ∧ n2 ≤ 200000) ∨ (k < ws.length ∧ ¬ n2 ≤ 200000) ∨ ¬ k < ws.length) with ⟨hkt, hn2⟩ | hno
          · have hkt' : (k : Int) < ws.length := by omega
            obtain ⟨x, hxe, hxr, b, off, u, hA, hbb, hc0, hc, ht⟩ : ∃ x, ws[k]? = some x ∧ x.2.length ≤ 140737488351232 ∧ ∃ b off u, A2 = some ⟨b, off, none⟩ ∧ b < w.heap.size ∧ wr.cell? ⟨b, off + k * 2, none⟩ = some (.int .i64 x.1) ∧ wr.cell? ⟨b, off + k * 2 + 1, none⟩ = some u ∧ Txt wr w.heap.size u x.2 := ⟨ws[k], List.getElem?_eq_getElem hkt, (HR.out.w _ (List.getElem_mem hkt)).1, (H2.out.below HB0.out).at hkt⟩
            subst hA
            obtain ⟨A3, c3, rfl, -, -, -, -⟩ := ht
            have hsn := sumW_snoc hxe
            have HSN := Lib.hid hsn
            have hn2' : (n2 : Int) ≤ 200000 := by omega
            have hxr' : (x.2.length : Int) ≤ 140737488351232 := by omega
            clear hsn hxe hkt
            go_wp2_with fail
            go_roundw
            case measure => simp [intOf]; omega
            case rel => exact ⟨k + 1, n2 + x.2.length, by omega, by go_num, by go_num, by omega, Lib.hid (by rw [HSN.out, hn2e.out]; omega), by first | rfl | trivial⟩
          · rcases hno with ⟨hkt, hn2⟩ | hkt
            · have hkt' : (k : Int) < ws.length := by omega
              have hn3 : ¬ (n2 : Int) ≤ 200000 := by omega
              have hn4 : (200000 : Int) < n2 := by omega
              clear hkt hn2
              go_wp2_with fail
              go_ret
              exact ⟨⟨_, rfl, fun h => by cases h⟩, HB0.out⟩
            · have hkt' : ¬ (k : Int) < ws.length := by omega
              by_cases hn3 : 200000 < n2
              · have hn4 : (200000 : Int) < n2 := by omega
                clear hn3 hkt
                go_wp2_with fail
                go_ret
                exact ⟨⟨_, rfl, fun h => by cases h⟩, HB0.out⟩
              · have hn4 : ¬ (200000 : Int) < n2 := by omega
                by_cases hcnt : 600 < ss.length + ws.length
                · have hc4 : (600 : Int) < (ss.length : Int) + ws.length := by omega
                  clear hn3 hkt hcnt
                  go_wp2_with fail
                  go_ret
                  exact ⟨⟨_, rfl, fun h => by cases h⟩, HB0.out⟩
                · have hc4 : ¬ (600 : Int) < (ss.length : Int) + ws.length := by omega
                  have HSM : Hid (Small ss ws) := Lib.hid ⟨by omega, by
                    have e1 := hn2e.out
                    have e2 := NE.out
                    have e3 : k = ws.length := by omega
                    have e4 : i = ss.length := by rcases EX.out with h | h <;> omega
                    subst e3 e4
                    rw [List.take_length] at e1 e2
                    omega⟩
                  clear hn3 hkt hcnt
                  go_wp2_with fail
                  go_ret
                  exact ⟨⟨_, rfl, fun _ => HSM.out⟩, HB0.out⟩
end Go.Proofs.Ytdjoflhcagfmiaa
