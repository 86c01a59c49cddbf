/-
 The program's package pack: lists of numbers, points, signals, flanks read.
 Conditions: none.
-/
import Derived.Test.YteloiajocjahmaaGreatDoorSGPckPE
import Derived.Test.YteloiajocjahmaaGreatDoorSGPlnRefB
set_option linter.unusedVariables false
set_option linter.unusedSimpArgs false
set_option maxRecDepth 100000
namespace Go.Proofs.YteloiajocjahmaaGreatDoor
open Go.RowKit

set_option maxHeartbeats 4000000 in
theorem plist_int (most : Int) (pa pw pb : Nat) (v : Value) (b : List UInt8) (s : St) (w : World) (h : Rdr w pa pw pb v b s) (h0 : 0 ≤ most) (hm : most ≤ 100) :
  Calls Tryz.prog 75 #[(.agg #[nxV pa pw pb, enV pa pw pb]), .int .i64 most, .func (.func 31) #[(.agg #[nxV pa pw pb, enV pa pw pb])] #[]] w fun e w' => RdP (listM b most (numM b) s) w pa pw pb v b (fun x w' => ∃ A n c, e = .returned (.slice A n c) ∧ n = x.length ∧ n ≤ 100 ∧ IntsOwn w' w.heap.size (.slice A n c) x) w' := by
 have HR := Lib.hid h
 have hlt := h.lt
 have hq0 := heap_alloc_self w (.cells #[nxV pa pw pb, enV pa pw pb] 75)
 have hqb := below_new w (.cells #[nxV pa pw pb, enV pa pw pb] 75)
 clear h
 go_enter Tryz.func75, Tryz.ntmps75
 go_upto_region 1 with fail
 generalize w.alloc (.cells #[nxV pa pw pb, enV pa pw pb] 75) = q at hq0 hqb ⊢
 have R1 := Lib.hid (HR.out.below hqb)
 have B1 : Hid (BelowX pa pw w.heap.size w q) := Lib.hid (.of hqb)
 have PP : Hid (pa < w.heap.size ∧ pw < w.heap.size ∧ pb < w.heap.size) := Lib.hid hlt
 obtain ⟨k0, k1⟩ := cell2_of hq0
 clear hq0 hqb HR hlt
 go_wp2_with fail
 refine (prnext_any most pa pw pb v b s q R1.out).mono ?_
 rintro e w1 ⟨x, s1, hx, rfl, hr, hb⟩
 obtain ⟨n, rfl, hn⟩ := next_nat R1.out.le h0 hx
 have HX := Lib.hid hx
 have R2 := Lib.hid hr
 have B2 := Lib.hid (B1.out.step hb (Nat.le_refl _))
 have hn4 : n ≤ 100 := by omega
 have HN := Lib.hid hn4
 clear hr hb hx R1 B1 k0 k1 hn h0 hm
 go_wp2_with fail
 go_loopw [7, 12] (fun s7 s12 wr => ∃ (i c : Nat) (A : Option Addr) (L : List Int) (si : St), s12 = .int .i64 i ∧ i ≤ n ∧ s7 = .slice A i c ∧ RepI (numM b) n s1 i L si ∧ IntsOwn wr w.heap.size (.slice A i c) L ∧ Rdr wr pa pw pb v b si ∧ BelowX pa pw w.heap.size w wr) (fun _ s12 _ => n - (intOf s12).toNat)
 case atStart => exact ⟨0, 0, none, [], s1, by go_num, by omega, rfl, RepI.zero, ListOwn.nil_, R2.out, B2.out⟩
 case round =>
  obtain ⟨i, c, A, L, si, rfl, hi, rfl, hrep, ho, hr, hb⟩ := hrel
  have HREP := Lib.hid hrep
  have HO := Lib.hid ho
  have RR := Lib.hid hr
  have BB := Lib.hid hb
  clear hrep ho hr hb R2 B2
  by_cases hlt : i < n
  ·have hlt' : (i : Int) < n := by omega
   go_wp2_with fail
   refine (pnumber_any pa pw pb v b si wr RR.out).mono ?_
   rintro e w2 ⟨x, s2, hx, rfl, hr, hb⟩
   have R3 := Lib.hid hr
   have B3 := Lib.hid (BB.out.step hb (Nat.le_refl _))
   have O3 : Hid (IntsOwn w2 w.heap.size (.slice A i c) L) := Lib.hid (flat_x intF HO.out PP.out.1 PP.out.2.1 hb)
   have HX2 := Lib.hid (HREP.out.step hlt hx)
   have HL := Lib.hid HREP.out.2.1
   clear hr hb hx
   go_wp2_with ((with_reducible show wpList _ _ _ (⟨some 18, _, _, _, _, _⟩ :: _) _ _); refine wpList_append_one (W := w2) (x := x) (ys := [.int .i64 x]) rfl (.tmp 14) (.tmp 17) rfl slInt intR (fun _ h _ _ => h) rfl rfl O3.out HL.out.symm rfl (by simp [Value.oneCell']) rfl (by omega) B3.out.size ?_; intro A5 c5 w5 ho5 hb5; have O5 := Lib.hid ho5; have B5 := Lib.hid hb5; clear ho5 hb5)
   go_roundw
   case measure => simp [intOf]; omega
   case rel => exact ⟨i + 1, c5, A5, L ++ [x], s2, by go_num, by omega, rfl, HX2.out, O5.out, R3.out.keep B5.out PP.out.1 PP.out.2.1 PP.out.2.2, B3.out.trans (.of B5.out)⟩
  ·obtain rfl : n = i := by omega
   have hlt' : ¬ (n : Int) < n := by omega
   have HA := Lib.hid (list_read HX.out HREP.out.all)
   have HL := Lib.hid HREP.out.2.1
   go_wp2_with fail
   go_ret
   exact RdP.intro L si HA.out ⟨_, _, _, rfl, HL.out.symm, HN.out, HO.out⟩ RR.out BB.out
set_option maxHeartbeats 4000000 in
theorem plist_flank (most : Int) (pa pw pb : Nat) (v : Value) (b : List UInt8) (s : St) (w : World) (h : Rdr w pa pw pb v b s) (h0 : 0 ≤ most) (hm : most ≤ 100) :
  Calls Tryz.prog 76 #[(.agg #[nxV pa pw pb, enV pa pw pb]), .int .i64 most, .func (.func 77) #[(.agg #[nxV pa pw pb, enV pa pw pb])] #[]] w fun e w' => RdP (listM b most (joinM b) s) w pa pw pb v b (fun x w' => ∃ A n c, e = .returned (.slice A n c) ∧ n = x.length ∧ n ≤ 100 ∧ FlanksOwn w' w.heap.size (.slice A n c) x) w' := by
 have HR := Lib.hid h
 have hlt := h.lt
 have hq0 := heap_alloc_self w (.cells #[nxV pa pw pb, enV pa pw pb] 75)
 have hqb := below_new w (.cells #[nxV pa pw pb, enV pa pw pb] 75)
 clear h
 go_enter Tryz.func76, Tryz.ntmps76
 go_upto_region 1 with fail
 generalize w.alloc (.cells #[nxV pa pw pb, enV pa pw pb] 75) = q at hq0 hqb ⊢
 have R1 := Lib.hid (HR.out.below hqb)
 have B1 : Hid (BelowX pa pw w.heap.size w q) := Lib.hid (.of hqb)
 have PP : Hid (pa < w.heap.size ∧ pw < w.heap.size ∧ pb < w.heap.size) := Lib.hid hlt
 obtain ⟨k0, k1⟩ := cell2_of hq0
 clear hq0 hqb HR hlt
 go_wp2_with fail
 refine (prnext_any most pa pw pb v b s q R1.out).mono ?_
 rintro e w1 ⟨x, s1, hx, rfl, hr, hb⟩
 obtain ⟨n, rfl, hn⟩ := next_nat R1.out.le h0 hx
 have HX := Lib.hid hx
 have R2 := Lib.hid hr
 have B2 := Lib.hid (B1.out.step hb (Nat.le_refl _))
 have hn4 : n ≤ 100 := by omega
 have HN := Lib.hid hn4
 clear hr hb hx R1 B1 k0 k1 hn h0 hm
 go_wp2_with fail
 go_loopw [7, 12] (fun s7 s12 wr => ∃ (i c : Nat) (A : Option Addr) (L : List Jn) (si : St), s12 = .int .i64 i ∧ i ≤ n ∧ s7 = .slice A i c ∧ RepI (joinM b) n s1 i L si ∧ FlanksOwn wr w.heap.size (.slice A i c) L ∧ Rdr wr pa pw pb v b si ∧ BelowX pa pw w.heap.size w wr) (fun _ s12 _ => n - (intOf s12).toNat)
 case atStart => exact ⟨0, 0, none, [], s1, by go_num, by omega, rfl, RepI.zero, ListOwn.nil_, R2.out, B2.out⟩
 case round =>
  obtain ⟨i, c, A, L, si, rfl, hi, rfl, hrep, ho, hr, hb⟩ := hrel
  have HREP := Lib.hid hrep
  have HO := Lib.hid ho
  have RR := Lib.hid hr
  have BB := Lib.hid hb
  clear hrep ho hr hb R2 B2
  by_cases hlt : i < n
  ·have hlt' : (i : Int) < n := by omega
   go_wp2_with fail
   refine (pflankR_any pa pw pb v b si wr RR.out).mono ?_
   rintro e w2 ⟨x, s2, hx, rfl, hr, hb⟩
   have R3 := Lib.hid hr
   have B3 := Lib.hid (BB.out.step hb (Nat.le_refl _))
   have O3 : Hid (FlanksOwn w2 w.heap.size (.slice A i c) L) := Lib.hid (flat_x joinF HO.out PP.out.1 PP.out.2.1 hb)
   have HX2 := Lib.hid (HREP.out.step hlt hx)
   have HL := Lib.hid HREP.out.2.1
   clear hr hb hx
   go_wp2_with ((with_reducible show wpList _ _ _ (⟨some 18, _, _, _, _, _⟩ :: _) _ _); refine wpList_append_one (W := w2) (x := x) (ys := [.int .i64 x.1, .int .i64 x.2]) rfl (.tmp 14) (.tmp 17) rfl slFlank joinR (fun _ h _ _ => h) rfl rfl O3.out HL.out.symm rfl (by simp [Value.oneCell']) ⟨rfl, rfl⟩ (by omega) B3.out.size ?_; intro A5 c5 w5 ho5 hb5; have O5 := Lib.hid ho5; have B5 := Lib.hid hb5; clear ho5 hb5)
   go_roundw
   case measure => simp [intOf]; omega
   case rel => exact ⟨i + 1, c5, A5, L ++ [x], s2, by go_num, by omega, rfl, HX2.out, O5.out, R3.out.keep B5.out PP.out.1 PP.out.2.1 PP.out.2.2, B3.out.trans (.of B5.out)⟩
  ·obtain rfl : n = i := by omega
   have hlt' : ¬ (n : Int) < n := by omega
   have HA := Lib.hid (list_read HX.out HREP.out.all)
   have HL := Lib.hid HREP.out.2.1
   go_wp2_with fail
   go_ret
   exact RdP.intro L si HA.out ⟨_, _, _, rfl, HL.out.symm, HN.out, HO.out⟩ RR.out BB.out
set_option maxHeartbeats 4000000 in
theorem plist_point (most : Int) (pa pw pb : Nat) (v : Value) (b : List UInt8) (s : St) (w : World) (h : Rdr w pa pw pb v b s) (h0 : 0 ≤ most) (hm : most ≤ 100) :
  Calls Tryz.prog 34 #[(.agg #[nxV pa pw pb, enV pa pw pb]), .int .i64 most, .func (.func 35) #[(.agg #[nxV pa pw pb, enV pa pw pb])] #[]] w fun e w' => RdP (listM b most (joinM b) s) w pa pw pb v b (fun x w' => ∃ A n c, e = .returned (.slice A n c) ∧ n = x.length ∧ n ≤ 100 ∧ PointsOwn w' w.heap.size (.slice A n c) x) w' := by
 have HR := Lib.hid h
 have hlt := h.lt
 have hq0 := heap_alloc_self w (.cells #[nxV pa pw pb, enV pa pw pb] 75)
 have hqb := below_new w (.cells #[nxV pa pw pb, enV pa pw pb] 75)
 clear h
 go_enter Tryz.func34, Tryz.ntmps34
 go_upto_region 1 with fail
 generalize w.alloc (.cells #[nxV pa pw pb, enV pa pw pb] 75) = q at hq0 hqb ⊢
 have R1 := Lib.hid (HR.out.below hqb)
 have B1 : Hid (BelowX pa pw w.heap.size w q) := Lib.hid (.of hqb)
 have PP : Hid (pa < w.heap.size ∧ pw < w.heap.size ∧ pb < w.heap.size) := Lib.hid hlt
 obtain ⟨k0, k1⟩ := cell2_of hq0
 clear hq0 hqb HR hlt
 go_wp2_with fail
 refine (prnext_any most pa pw pb v b s q R1.out).mono ?_
 rintro e w1 ⟨x, s1, hx, rfl, hr, hb⟩
 obtain ⟨n, rfl, hn⟩ := next_nat R1.out.le h0 hx
 have HX := Lib.hid hx
 have R2 := Lib.hid hr
 have B2 := Lib.hid (B1.out.step hb (Nat.le_refl _))
 have hn4 : n ≤ 100 := by omega
 have HN := Lib.hid hn4
 clear hr hb hx R1 B1 k0 k1 hn h0 hm
 go_wp2_with fail
 go_loopw [7, 12] (fun s7 s12 wr => ∃ (i c : Nat) (A : Option Addr) (L : List Jn) (si : St), s12 = .int .i64 i ∧ i ≤ n ∧ s7 = .slice A i c ∧ RepI (joinM b) n s1 i L si ∧ PointsOwn wr w.heap.size (.slice A i c) L ∧ Rdr wr pa pw pb v b si ∧ BelowX pa pw w.heap.size w wr) (fun _ s12 _ => n - (intOf s12).toNat)
 case atStart => exact ⟨0, 0, none, [], s1, by go_num, by omega, rfl, RepI.zero, ListOwn.nil_, R2.out, B2.out⟩
 case round =>
  obtain ⟨i, c, A, L, si, rfl, hi, rfl, hrep, ho, hr, hb⟩ := hrel
  have HREP := Lib.hid hrep
  have HO := Lib.hid ho
  have RR := Lib.hid hr
  have BB := Lib.hid hb
  clear hrep ho hr hb R2 B2
  by_cases hlt : i < n
  ·have hlt' : (i : Int) < n := by omega
   go_wp2_with fail
   refine (ppointR_any pa pw pb v b si wr RR.out).mono ?_
   rintro e w2 ⟨x, s2, hx, rfl, hr, hb⟩
   have R3 := Lib.hid hr
   have B3 := Lib.hid (BB.out.step hb (Nat.le_refl _))
   have O3 : Hid (PointsOwn w2 w.heap.size (.slice A i c) L) := Lib.hid (flat_x joinF HO.out PP.out.1 PP.out.2.1 hb)
   have HX2 := Lib.hid (HREP.out.step hlt hx)
   have HL := Lib.hid HREP.out.2.1
   clear hr hb hx
   go_wp2_with ((with_reducible show wpList _ _ _ (⟨some 18, _, _, _, _, _⟩ :: _) _ _); refine wpList_append_one (W := w2) (x := x) (ys := [.int .i64 x.1, .int .i64 x.2]) rfl (.tmp 14) (.tmp 17) rfl slPoint joinR (fun _ h _ _ => h) rfl rfl O3.out HL.out.symm rfl (by simp [Value.oneCell']) ⟨rfl, rfl⟩ (by omega) B3.out.size ?_; intro A5 c5 w5 ho5 hb5; have O5 := Lib.hid ho5; have B5 := Lib.hid hb5; clear ho5 hb5)
   go_roundw
   case measure => simp [intOf]; omega
   case rel => exact ⟨i + 1, c5, A5, L ++ [x], s2, by go_num, by omega, rfl, HX2.out, O5.out, R3.out.keep B5.out PP.out.1 PP.out.2.1 PP.out.2.2, B3.out.trans (.of B5.out)⟩
  ·obtain rfl : n = i := by omega
   have hlt' : ¬ (n : Int) < n := by omega
   have HA := Lib.hid (list_read HX.out HREP.out.all)
   have HL := Lib.hid HREP.out.2.1
   go_wp2_with fail
   go_ret
   exact RdP.intro L si HA.out ⟨_, _, _, rfl, HL.out.symm, HN.out, HO.out⟩ RR.out BB.out
set_option maxHeartbeats 4000000 in
theorem plist_signal (most : Int) (pa pw pb : Nat) (v : Value) (b : List UInt8) (s : St) (w : World) (h : Rdr w pa pw pb v b s) (h0 : 0 ≤ most) (hm : most ≤ 100) :
  Calls Tryz.prog 36 #[(.agg #[nxV pa pw pb, enV pa pw pb]), .int .i64 most, .func (.func 37) #[(.agg #[nxV pa pw pb, enV pa pw pb])] #[]] w fun e w' => RdP (listM b most (sigM b) s) w pa pw pb v b (fun x w' => ∃ A n c, e = .returned (.slice A n c) ∧ n = x.length ∧ n ≤ 100 ∧ SigsOwn w' w.heap.size (.slice A n c) x) w' := by
 have HR := Lib.hid h
 have hlt := h.lt
 have hq0 := heap_alloc_self w (.cells #[nxV pa pw pb, enV pa pw pb] 75)
 have hqb := below_new w (.cells #[nxV pa pw pb, enV pa pw pb] 75)
 clear h
 go_enter Tryz.func36, Tryz.ntmps36
 go_upto_region 1 with fail
 generalize w.alloc (.cells #[nxV pa pw pb, enV pa pw pb] 75) = q at hq0 hqb ⊢
 have R1 := Lib.hid (HR.out.below hqb)
 have B1 : Hid (BelowX pa pw w.heap.size w q) := Lib.hid (.of hqb)
 have PP : Hid (pa < w.heap.size ∧ pw < w.heap.size ∧ pb < w.heap.size) := Lib.hid hlt
 obtain ⟨k0, k1⟩ := cell2_of hq0
 clear hq0 hqb HR hlt
 go_wp2_with fail
 refine (prnext_any most pa pw pb v b s q R1.out).mono ?_
 rintro e w1 ⟨x, s1, hx, rfl, hr, hb⟩
 obtain ⟨n, rfl, hn⟩ := next_nat R1.out.le h0 hx
 have HX := Lib.hid hx
 have R2 := Lib.hid hr
 have B2 := Lib.hid (B1.out.step hb (Nat.le_refl _))
 have hn4 : n ≤ 100 := by omega
 have HN := Lib.hid hn4
 clear hr hb hx R1 B1 k0 k1 hn h0 hm
 go_wp2_with fail
 go_loopw [7, 12] (fun s7 s12 wr => ∃ (i c : Nat) (A : Option Addr) (L : List Sg) (si : St), s12 = .int .i64 i ∧ i ≤ n ∧ s7 = .slice A i c ∧ RepI (sigM b) n s1 i L si ∧ SigsOwn wr w.heap.size (.slice A i c) L ∧ Rdr wr pa pw pb v b si ∧ BelowX pa pw w.heap.size w wr) (fun _ s12 _ => n - (intOf s12).toNat)
 case atStart => exact ⟨0, 0, none, [], s1, by go_num, by omega, rfl, RepI.zero, ListOwn.nil_, R2.out, B2.out⟩
 case round =>
  obtain ⟨i, c, A, L, si, rfl, hi, rfl, hrep, ho, hr, hb⟩ := hrel
  have HREP := Lib.hid hrep
  have HO := Lib.hid ho
  have RR := Lib.hid hr
  have BB := Lib.hid hb
  clear hrep ho hr hb R2 B2
  by_cases hlt : i < n
  ·have hlt' : (i : Int) < n := by omega
   go_wp2_with fail
   refine (psigR_any pa pw pb v b si wr RR.out).mono ?_
   rintro e w2 ⟨x, s2, hx, rfl, hr, hb⟩
   have R3 := Lib.hid hr
   have B3 := Lib.hid (BB.out.step hb (Nat.le_refl _))
   have O3 : Hid (SigsOwn w2 w.heap.size (.slice A i c) L) := Lib.hid (flat_x sigF HO.out PP.out.1 PP.out.2.1 hb)
   have HX2 := Lib.hid (HREP.out.step hlt hx)
   have HL := Lib.hid HREP.out.2.1
   clear hr hb hx
   go_wp2_with ((with_reducible show wpList _ _ _ (⟨some 18, _, _, _, _, _⟩ :: _) _ _); refine wpList_append_one (W := w2) (x := x) (ys := [.int .i64 x.1, .int .i64 x.2.1, .int .i64 x.2.2]) rfl (.tmp 14) (.tmp 17) rfl slSig sigR (fun _ h _ _ => h) rfl rfl O3.out HL.out.symm rfl (by simp [Value.oneCell']) ⟨rfl, rfl, rfl⟩ (by omega) B3.out.size ?_; intro A5 c5 w5 ho5 hb5; have O5 := Lib.hid ho5; have B5 := Lib.hid hb5; clear ho5 hb5)
   go_roundw
   case measure => simp [intOf]; omega
   case rel => exact ⟨i + 1, c5, A5, L ++ [x], s2, by go_num, by omega, rfl, HX2.out, O5.out, R3.out.keep B5.out PP.out.1 PP.out.2.1 PP.out.2.2, B3.out.trans (.of B5.out)⟩
  ·obtain rfl : n = i := by omega
   have hlt' : ¬ (n : Int) < n := by omega
   have HA := Lib.hid (list_read HX.out HREP.out.all)
   have HL := Lib.hid HREP.out.2.1
   go_wp2_with fail
   go_ret
   exact RdP.intro L si HA.out ⟨_, _, _, rfl, HL.out.symm, HN.out, HO.out⟩ RR.out BB.out

/-- A section that is read: the reader's box p0, the answer's p1, the section's p3. -/
structure SecSt (w W : World) (pa pw pb p0 p1 p3 : Nat) (v : Value) (b : List UInt8) (s : St) (row : Array Value) : Prop where
 rd : Rdr W pa pw pb v b s
 x0 : W.heap[p0]? = some (.cells #[nxV pa pw pb, enV pa pw pb] 75 (0, 0))
 x1 : W.heap[p1]? = some (.cells #[.int .i64 0, .int .i64 0, .slice none 0 0] 63 (0, 0))
 x3 : W.heap[p3]? = some (.cells row 63 (0, 0))
 b : BelowX pa pw w.heap.size w W
 lt : pa < p0 ∧ pw < p0 ∧ pb < p0 ∧ p0 < p1 ∧ p1 < p3 ∧ p0 = w.heap.size
section
variable {w W W' : World} {pa pw pb p0 p1 p3 : Nat} {v : Value} {b : List UInt8} {s s' : St} {row : Array Value}
theorem SecSt.next (h : SecSt w W pa pw pb p0 p1 p3 v b s row) (hr : Rdr W' pa pw pb v b s') (hb : BelowX pa pw W.heap.size W W') : SecSt w W' pa pw pb p0 p1 p3 v b s' row := by
 obtain ⟨h1, h2, h3, h4, h5, h6⟩ := h
 exact ⟨hr, (hb.block _ (heap_lt h2) (by omega) (by omega)).trans h2, (hb.block _ (heap_lt h3) (by omega) (by omega)).trans h3, (hb.block _ (heap_lt h4) (by omega) (by omega)).trans h4, h5.step hb (Nat.le_refl _), h6⟩
theorem SecSt.below (h : SecSt w W pa pw pb p0 p1 p3 v b s row) (hb : Below W.heap.size W W') : SecSt w W' pa pw pb p0 p1 p3 v b s row := h.next (h.rd.below hb) (.of hb)
theorem SecSt.keep (h : SecSt w W pa pw pb p0 p1 p3 v b s row) {n : Nat} (hb : Below n W W') (hn : p3 < n) : SecSt w W' pa pw pb p0 p1 p3 v b s row := by
 obtain ⟨h1, h2, h3, h4, h5, h6⟩ := h
 exact ⟨h1.keep hb (by omega) (by omega) (by omega), (hb.block _ (by omega)).trans h2, (hb.block _ (by omega)).trans h3, (hb.block _ (by omega)).trans h4, h5.trans (.of (hb.mono (by omega))), h6⟩
theorem SecSt.set (h : SecSt w W pa pw pb p0 p1 p3 v b s row) (k : Nat) (x : Value) : SecSt w (W.setCell ⟨p3, k, none⟩ x) pa pw pb p0 p1 p3 v b s (row.setIfInBounds k x) := by
 obtain ⟨h1, h2, h3, h4, h5, h6⟩ := h
 have hb := below_set (Below.refl p3 W) (Nat.le_refl _) k x
 exact ⟨h1.keep hb (by omega) (by omega) (by omega), (hb.block _ (by omega)).trans h2, (hb.block _ (by omega)).trans h3, heap_setK h4 x, h5.trans (.of (hb.mono (by omega))), h6⟩
end
theorem sec_read {b : List UInt8} {s s3 s4 : St} {x y : Int} {L : List Jn} (h : joinM b s = ((x, y), s3)) (h2 : repM (joinM b) (endsOf y) s3 = (L, s4)) : secM b s = ((x, y, L), s4) := by
 show (((joinM b s).1.1, (joinM b s).1.2, (repM (joinM b) (endsOf (joinM b s).1.2) (joinM b s).2).1), (repM (joinM b) (endsOf (joinM b s).1.2) (joinM b s).2).2) = _
 rw [h]
 dsimp only
 rw [h2]
theorem infoSecZ : (Tryz.prog.info? 63).map (·.size) = some 3 := by kernel_rfl
set_option maxHeartbeats 8000000 in
theorem psecR_any (pa pw pb : Nat) (v : Value) (b : List UInt8) (s : St) (w : World) (h : Rdr w pa pw pb v b s) :
  Calls Tryz.prog 33 #[(.agg #[nxV pa pw pb, enV pa pw pb])] w fun e w' => RdP (secM b s) w pa pw pb v b (fun x w' => ∃ A n c, e = .returned (.agg #[.int .i64 x.1, .int .i64 x.2.1, .slice A n c]) ∧ n = x.2.2.length ∧ JoinsOwn w' w.heap.size (.slice A n c) x.2.2) w' := by
 have HR := Lib.hid h
 have hlt := h.lt
 obtain ⟨h0, h1, hqb⟩ := two_boxes w (.cells #[nxV pa pw pb, enV pa pw pb] 75) (.cells #[.int .i64 0, .int .i64 0, .slice none 0 0] 63)
 clear h
 go_enter Tryz.func33, Tryz.ntmps33
 go_upto_region 1 with fail
 have hqs : ((w.alloc (.cells #[nxV pa pw pb, enV pa pw pb] 75)).alloc (.cells #[.int .i64 0, .int .i64 0, .slice none 0 0] 63)).heap.size = w.heap.size + 2 := by simp
 generalize (w.alloc (.cells #[nxV pa pw pb, enV pa pw pb] 75)).alloc (.cells #[.int .i64 0, .int .i64 0, .slice none 0 0] 63) = q at h0 h1 hqb hqs ⊢
 obtain ⟨p0, hp0⟩ : ∃ n, n = w.heap.size := ⟨_, rfl⟩
 obtain ⟨p1, hp1⟩ : ∃ n, n = w.heap.size + 1 := ⟨_, rfl⟩
 have R1 := Lib.hid (HR.out.below hqb)
 have B1 : Hid (BelowX pa pw w.heap.size w q) := Lib.hid (.of hqb)
 have PP : Hid (p0 = w.heap.size ∧ p1 = w.heap.size + 1 ∧ pa < p0 ∧ pw < p0 ∧ pb < p0 ∧ q.heap.size = w.heap.size + 2) := Lib.hid ⟨hp0, hp1, by omega, by omega, by omega, hqs⟩
 rw [← hp0] at h0
 rw [← hp1] at h1
 have X0 := Lib.hid h0
 have X1 := Lib.hid h1
 rw [← hp1, ← hp0]
 clear hp0 hp1 hqs hqb h0 h1 hlt HR
 go_cut [3] from 5 to 9 (fun z3 wx => ∃ p3 x2 x3 s3, z3 = .pointer (some ⟨p3, 0, none⟩) ∧ joinM b s = ((x2, x3), s3) ∧ SecSt w wx pa pw pb p0 p1 p3 v b s3 #[.int .i64 x2, .int .i64 x3, .slice none 0 0])
 case first =>
  refine wp_region_held_drew (S := fun W => W.heap[p0]? = some (.cells #[nxV pa pw pb, enV pa pw pb] 75 (0, 0))) (by kernel_rfl) X0.out (fun hHeld => ?_)
  refine tkc 0 hHeld (fun w' hSw => cell2_of hSw) ?_;refine tkc 2 hHeld (fun w' hSw => cell2_of hSw) ?_
  have R_q0 := Lib.hid (R1.out.below (Below.refl q.heap.size q).drew)
  have B_q0 : Hid (BelowX pa pw w.heap.size w q.drew) := Lib.hid B1.out.drew
  have X1_q0 : Hid (q.drew.heap[p1]? = some _) := X1
  have X0_q0 : Hid (q.drew.heap[p0]? = some _) := X0
  have QS : Hid (q.drew.heap.size = w.heap.size + 2) := Lib.hid PP.out.2.2.2.2.2
  generalize q.drew = q0 at R_q0 B_q0 X1_q0 X0_q0 QS hHeld ⊢
  clear R1 B1 X0 X1
  refine wpAnyH_ready (rs := [1, 5]) (by kernel_rfl) (by simp) ?_
  refine AllReadyH.cons rfl (fun K hK => ?_) (AllReadyH.cons rfl (fun K hK => ?_) AllReadyH.nil)
  ·go_simp
   refine (pnumber_any pa pw pb v b s q0 R_q0.out).mono ?_
   rintro e w2 ⟨x2, s2, hx2, rfl, hr2, hb2⟩
   have R_w2 := Lib.hid hr2
   have B_w2 := Lib.hid (B_q0.out.step hb2 (Nat.le_refl _))
   have E2 := Lib.hid hx2
   have TX0 : w2.heap[p0]? = some _ := (hb2.block p0 (heap_lt X0_q0.out) (by have := PP.out; omega) (by have := PP.out; omega)).trans X0_q0.out
   have X0_w2 := Lib.hid TX0
   have TX1 : w2.heap[p1]? = some _ := (hb2.block p1 (heap_lt X1_q0.out) (by have := PP.out; omega) (by have := PP.out; omega)).trans X1_q0.out
   have X1_w2 := Lib.hid TX1
   clear hr2 hb2 hx2 TX0 TX1 R_q0 B_q0 X0_q0 X1_q0
   try go_wp2_with fail
   refine hK.out _ _ ?_ fun hHeld => ?_;exact X0_w2.out;clear hK K;try simp only [zn, Act.put]
   refine wpAnyH_ready (rs := [3, 5]) (by kernel_rfl) (by simp) ?_
   refine AllReadyH.cons rfl (fun K hK => ?_) (AllReadyH.cons rfl (fun K hK => ?_) AllReadyH.nil)
   ·go_simp
    refine (pnumber_any pa pw pb v b s2 w2 R_w2.out).mono ?_
    rintro e w3 ⟨x3, s3, hx3, rfl, hr3, hb3⟩
    have R_w3 := Lib.hid hr3
    have B_w3 := Lib.hid (B_w2.out.step hb3 (Nat.le_refl _))
    have E3 := Lib.hid hx3
    have TX0 : w3.heap[p0]? = some _ := (hb3.block p0 (heap_lt X0_w2.out) (by have := PP.out; omega) (by have := PP.out; omega)).trans X0_w2.out
    have X0_w3 := Lib.hid TX0
    have TX1 : w3.heap[p1]? = some _ := (hb3.block p1 (heap_lt X1_w2.out) (by have := PP.out; omega) (by have := PP.out; omega)).trans X1_w2.out
    have X1_w3 := Lib.hid TX1
    clear hr3 hb3 hx3 TX0 TX1 R_w2 B_w2 X0_w2 X1_w2
    try go_wp2_with fail
    refine hK.out _ _ ?_ fun hHeld => ?_;exact X0_w3.out;clear hK K;try simp only [zn, Act.put]
    refine tk 4 hHeld ?_
    refine tkr 5 (fun K hK => ?_)
    go_simp
    have tb := below_new w3 (.cells #[.int .i64 0, .int .i64 0, .slice none 0 0] 63)
    have tR := R_w3.out.below tb
    have tB := B_w3.out.stepB tb (Nat.le_refl _)
    have T0 := (tb.block _ (heap_lt X0_w3.out)).trans X0_w3.out
    have T1 := (tb.block _ (heap_lt X1_w3.out)).trans X1_w3.out
    have T3 := heap_alloc_self w3 (.cells #[.int .i64 0, .int .i64 0, .slice none 0 0] 63)
    have T4 := heap_lt X1_w3.out
    refine hK.out _ _ ?_ fun hHeld => ?_;exact T0;clear hK K;try simp only [zn, Act.put]
    generalize w3.alloc (.cells #[.int .i64 0, .int .i64 0, .slice none 0 0] 63) = q3 at tR tB T0 T1 T3 hHeld ⊢
    obtain ⟨p3, hp3⟩ : ∃ n, n = w3.heap.size := ⟨_, rfl⟩
    rw [← hp3] at T3 T4 ⊢
    have P3 : Hid (p1 < p3) := Lib.hid T4
    have R_q3 := Lib.hid tR
    have B_q3 := Lib.hid tB
    have X0_q3 := Lib.hid T0
    have X1_q3 := Lib.hid T1
    have X3_q3 := Lib.hid T3
    clear tb tR tB T0 T1 T3 T4 hp3 R_w3 B_w3 X0_w3 X1_w3
    refine tkr 6 (fun K hK => ?_)
    rw [if_pos (by rfl)]
    refine wp_store_rowP 63 (.tmp 3) (.tmp 9) rfl p3 rfl (c' := #[.int .i64 x2, .int .i64 x3, .slice none 0 0]) rfl X3_q3.out infoSecZ rfl (by simp [Value.oneCell']) ?_
    have TB : Below p3 q3 (q3.setRow p3 #[.int .i64 x2, .int .i64 x3, .slice none 0 0]) := below_setRow (Below.refl _ _) (Nat.le_refl _) _
    have SS : SecSt w (q3.setRow p3 #[.int .i64 x2, .int .i64 x3, .slice none 0 0]) pa pw pb p0 p1 p3 v b s3 #[.int .i64 x2, .int .i64 x3, .slice none 0 0] := ⟨R_q3.out.setRow p3 _ (by have := PP.out; have := P3.out; omega) (by have := PP.out; have := P3.out; omega) (by have := PP.out; have := P3.out; omega), (TB.block _ (by have := PP.out; have := P3.out; omega)).trans X0_q3.out, (TB.block _ P3.out).trans X1_q3.out, setRow_heap q3 p3 _ _ _ _ X3_q3.out, B_q3.out.trans (.of (TB.mono (by have := PP.out; have := P3.out; omega))), by have := PP.out; have := P3.out; omega⟩
    refine hK.out _ _ ?_ fun hHeld => ?_;exact SS.x0;clear hK K;try simp only [zn, Act.put]
    refine wpAnyH_done (by kernel_rfl) ?_ _
    go_wp2_with fail
    go_meet
    exact ⟨p3, x2, x3, s3, rfl, join_read E2.out E3.out, SS⟩
   ·go_simp
    have tb := below_new w2 (.cells #[.int .i64 0, .int .i64 0, .slice none 0 0] 63)
    have tR := R_w2.out.below tb
    have tB := B_w2.out.stepB tb (Nat.le_refl _)
    have T0 := (tb.block _ (heap_lt X0_w2.out)).trans X0_w2.out
    have T1 := (tb.block _ (heap_lt X1_w2.out)).trans X1_w2.out
    have T3 := heap_alloc_self w2 (.cells #[.int .i64 0, .int .i64 0, .slice none 0 0] 63)
    have T4 := heap_lt X1_w2.out
    refine hK.out _ _ ?_ fun hHeld => ?_;exact T0;clear hK K;try simp only [zn, Act.put]
    generalize w2.alloc (.cells #[.int .i64 0, .int .i64 0, .slice none 0 0] 63) = q3 at tR tB T0 T1 T3 hHeld ⊢
    obtain ⟨p3, hp3⟩ : ∃ n, n = w2.heap.size := ⟨_, rfl⟩
    rw [← hp3] at T3 T4 ⊢
    have P3 : Hid (p1 < p3) := Lib.hid T4
    have R_q3 := Lib.hid tR
    have B_q3 := Lib.hid tB
    have X0_q3 := Lib.hid T0
    have X1_q3 := Lib.hid T1
    have X3_q3 := Lib.hid T3
    clear tb tR tB T0 T1 T3 T4 hp3 R_w2 B_w2 X0_w2 X1_w2
    refine tkr 3 (fun K hK => ?_)
    go_simp
    refine (pnumber_any pa pw pb v b s2 q3 R_q3.out).mono ?_
    rintro e w3 ⟨x3, s3, hx3, rfl, hr3, hb3⟩
    have R_w3 := Lib.hid hr3
    have B_w3 := Lib.hid (B_q3.out.step hb3 (Nat.le_refl _))
    have E3 := Lib.hid hx3
    have TX0 : w3.heap[p0]? = some _ := (hb3.block p0 (heap_lt X0_q3.out) (by have := PP.out; omega) (by have := PP.out; omega)).trans X0_q3.out
    have X0_w3 := Lib.hid TX0
    have TX1 : w3.heap[p1]? = some _ := (hb3.block p1 (heap_lt X1_q3.out) (by have := PP.out; omega) (by have := PP.out; omega)).trans X1_q3.out
    have X1_w3 := Lib.hid TX1
    have TX3 : w3.heap[p3]? = some _ := (hb3.block p3 (heap_lt X3_q3.out) (by have := PP.out; have := P3.out; omega) (by have := PP.out; have := P3.out; omega)).trans X3_q3.out
    have X3_w3 := Lib.hid TX3
    clear hr3 hb3 hx3 TX0 TX1 TX3 R_q3 B_q3 X0_q3 X1_q3 X3_q3
    try go_wp2_with fail
    refine hK.out _ _ ?_ fun hHeld => ?_;exact X0_w3.out;clear hK K;try simp only [zn, Act.put]
    refine tk 4 hHeld ?_
    refine tkr 6 (fun K hK => ?_)
    rw [if_pos (by rfl)]
    refine wp_store_rowP 63 (.tmp 3) (.tmp 9) rfl p3 rfl (c' := #[.int .i64 x2, .int .i64 x3, .slice none 0 0]) rfl X3_w3.out infoSecZ rfl (by simp [Value.oneCell']) ?_
    have TB : Below p3 w3 (w3.setRow p3 #[.int .i64 x2, .int .i64 x3, .slice none 0 0]) := below_setRow (Below.refl _ _) (Nat.le_refl _) _
    have SS : SecSt w (w3.setRow p3 #[.int .i64 x2, .int .i64 x3, .slice none 0 0]) pa pw pb p0 p1 p3 v b s3 #[.int .i64 x2, .int .i64 x3, .slice none 0 0] := ⟨R_w3.out.setRow p3 _ (by have := PP.out; have := P3.out; omega) (by have := PP.out; have := P3.out; omega) (by have := PP.out; have := P3.out; omega), (TB.block _ (by have := PP.out; have := P3.out; omega)).trans X0_w3.out, (TB.block _ P3.out).trans X1_w3.out, setRow_heap w3 p3 _ _ _ _ X3_w3.out, B_w3.out.trans (.of (TB.mono (by have := PP.out; have := P3.out; omega))), by have := PP.out; have := P3.out; omega⟩
    refine hK.out _ _ ?_ fun hHeld => ?_;exact SS.x0;clear hK K;try simp only [zn, Act.put]
    refine wpAnyH_done (by kernel_rfl) ?_ _
    go_wp2_with fail
    go_meet
    exact ⟨p3, x2, x3, s3, rfl, join_read E2.out E3.out, SS⟩
  ·go_simp
   have tb := below_new q0 (.cells #[.int .i64 0, .int .i64 0, .slice none 0 0] 63)
   have tR := R_q0.out.below tb
   have tB := B_q0.out.stepB tb (Nat.le_refl _)
   have T0 := (tb.block _ (heap_lt X0_q0.out)).trans X0_q0.out
   have T1 := (tb.block _ (heap_lt X1_q0.out)).trans X1_q0.out
   have T3 := heap_alloc_self q0 (.cells #[.int .i64 0, .int .i64 0, .slice none 0 0] 63)
   have T4 := heap_lt X1_q0.out
   refine hK.out _ _ ?_ fun hHeld => ?_;exact T0;clear hK K;try simp only [zn, Act.put]
   generalize q0.alloc (.cells #[.int .i64 0, .int .i64 0, .slice none 0 0] 63) = q3 at tR tB T0 T1 T3 hHeld ⊢
   obtain ⟨p3, hp3⟩ : ∃ n, n = q0.heap.size := ⟨_, rfl⟩
   rw [← hp3] at T3 T4 ⊢
   have P3 : Hid (p1 < p3) := Lib.hid T4
   have R_q3 := Lib.hid tR
   have B_q3 := Lib.hid tB
   have X0_q3 := Lib.hid T0
   have X1_q3 := Lib.hid T1
   have X3_q3 := Lib.hid T3
   clear tb tR tB T0 T1 T3 T4 hp3 R_q0 B_q0 X0_q0 X1_q0
   refine tkr 1 (fun K hK => ?_)
   go_simp
   refine (pnumber_any pa pw pb v b s q3 R_q3.out).mono ?_
   rintro e w2 ⟨x2, s2, hx2, rfl, hr2, hb2⟩
   have R_w2 := Lib.hid hr2
   have B_w2 := Lib.hid (B_q3.out.step hb2 (Nat.le_refl _))
   have E2 := Lib.hid hx2
   have TX0 : w2.heap[p0]? = some _ := (hb2.block p0 (heap_lt X0_q3.out) (by have := PP.out; omega) (by have := PP.out; omega)).trans X0_q3.out
   have X0_w2 := Lib.hid TX0
   have TX1 : w2.heap[p1]? = some _ := (hb2.block p1 (heap_lt X1_q3.out) (by have := PP.out; omega) (by have := PP.out; omega)).trans X1_q3.out
   have X1_w2 := Lib.hid TX1
   have TX3 : w2.heap[p3]? = some _ := (hb2.block p3 (heap_lt X3_q3.out) (by have := PP.out; have := P3.out; omega) (by have := PP.out; have := P3.out; omega)).trans X3_q3.out
   have X3_w2 := Lib.hid TX3
   clear hr2 hb2 hx2 TX0 TX1 TX3 R_q3 B_q3 X0_q3 X1_q3 X3_q3
   try go_wp2_with fail
   refine hK.out _ _ ?_ fun hHeld => ?_;exact X0_w2.out;clear hK K;try simp only [zn, Act.put]
   refine tkr 3 (fun K hK => ?_)
   go_simp
   refine (pnumber_any pa pw pb v b s2 w2 R_w2.out).mono ?_
   rintro e w3 ⟨x3, s3, hx3, rfl, hr3, hb3⟩
   have R_w3 := Lib.hid hr3
   have B_w3 := Lib.hid (B_w2.out.step hb3 (Nat.le_refl _))
   have E3 := Lib.hid hx3
   have TX0 : w3.heap[p0]? = some _ := (hb3.block p0 (heap_lt X0_w2.out) (by have := PP.out; omega) (by have := PP.out; omega)).trans X0_w2.out
   have X0_w3 := Lib.hid TX0
   have TX1 : w3.heap[p1]? = some _ := (hb3.block p1 (heap_lt X1_w2.out) (by have := PP.out; omega) (by have := PP.out; omega)).trans X1_w2.out
   have X1_w3 := Lib.hid TX1
   have TX3 : w3.heap[p3]? = some _ := (hb3.block p3 (heap_lt X3_w2.out) (by have := PP.out; have := P3.out; omega) (by have := PP.out; have := P3.out; omega)).trans X3_w2.out
   have X3_w3 := Lib.hid TX3
   clear hr3 hb3 hx3 TX0 TX1 TX3 R_w2 B_w2 X0_w2 X1_w2 X3_w2
   try go_wp2_with fail
   refine hK.out _ _ ?_ fun hHeld => ?_;exact X0_w3.out;clear hK K;try simp only [zn, Act.put]
   refine tk 4 hHeld ?_
   refine tkr 6 (fun K hK => ?_)
   rw [if_pos (by rfl)]
   refine wp_store_rowP 63 (.tmp 3) (.tmp 9) rfl p3 rfl (c' := #[.int .i64 x2, .int .i64 x3, .slice none 0 0]) rfl X3_w3.out infoSecZ rfl (by simp [Value.oneCell']) ?_
   have TB : Below p3 w3 (w3.setRow p3 #[.int .i64 x2, .int .i64 x3, .slice none 0 0]) := below_setRow (Below.refl _ _) (Nat.le_refl _) _
   have SS : SecSt w (w3.setRow p3 #[.int .i64 x2, .int .i64 x3, .slice none 0 0]) pa pw pb p0 p1 p3 v b s3 #[.int .i64 x2, .int .i64 x3, .slice none 0 0] := ⟨R_w3.out.setRow p3 _ (by have := PP.out; have := P3.out; omega) (by have := PP.out; have := P3.out; omega) (by have := PP.out; have := P3.out; omega), (TB.block _ (by have := PP.out; have := P3.out; omega)).trans X0_w3.out, (TB.block _ P3.out).trans X1_w3.out, setRow_heap w3 p3 _ _ _ _ X3_w3.out, B_w3.out.trans (.of (TB.mono (by have := PP.out; have := P3.out; omega))), by have := PP.out; have := P3.out; omega⟩
   refine hK.out _ _ ?_ fun hHeld => ?_;exact SS.x0;clear hK K;try simp only [zn, Act.put]
   refine wpAnyH_done (by kernel_rfl) ?_ _
   go_wp2_with fail
   go_meet
   exact ⟨p3, x2, x3, s3, rfl, join_read E2.out E3.out, SS⟩
 case rest =>
  obtain ⟨p3, x2, x3, s3, rfl, hj, hst⟩ := hcut
  have HJ := Lib.hid hj
  have SC := Lib.hid hst
  obtain ⟨wy, hwy⟩ : ∃ u, u = wc := ⟨_, rfl⟩
  subst hwy
  obtain ⟨c0, c1, c2⟩ := cell3_of hst.x3
  clear hj hst R1 B1 X0 X1
  go_upto_if 12 with fail
  go_cut [4] from 4 to 4 (fun z4 wx => z4 = .int .i64 (endsOf x3 : Int) ∧ wx = wy)
  case first =>
   by_cases hz : x3 = 0
   ·have HE : Hid ((endsOf x3 : Int) = 2) := Lib.hid (by rw [endsOf, if_pos hz]; rfl)
    have d0 : (x3 != 0) = false := by simpa using hz
    clear hz
    go_wp2_with fail
    go_meet
    exact ⟨by rw [HE.out], rfl⟩
   ·have HE : Hid ((endsOf x3 : Int) = 3) := Lib.hid (by rw [endsOf, if_neg hz]; rfl)
    have d0 : (x3 != 0) = true := by simpa using hz
    go_wp2_with fail
    go_meet
    exact ⟨by rw [HE.out], rfl⟩
  case rest =>
   obtain ⟨rfl, rfl⟩ := hcut
   obtain ⟨n, hn⟩ : ∃ n, n = endsOf x3 := ⟨_, rfl⟩
   have HNE := Lib.hid hn
   have hn4 : n ≤ 3 := by rw [hn]; unfold endsOf; split <;> omega
   rw [← hn]
   clear hn c0 c1 c2
   obtain ⟨lo, hlo⟩ : ∃ n, n = p3 + 1 := ⟨_, rfl⟩
   have LO : Hid (p3 < lo ∧ pa < lo ∧ pw < lo ∧ pb < lo ∧ p1 < lo ∧ w.heap.size ≤ lo ∧ lo = p3 + 1) := Lib.hid (by have := SC.out.lt; omega)
   clear hlo
   go_wp2_with fail
   go_loopw [14] (fun z14 wr => ∃ (i c : Nat) (A : Option Addr) (L : List Jn) (si : St), z14 = .int .i64 i ∧ i ≤ n ∧ RepI (joinM b) n s3 i L si ∧ JoinsOwn wr lo (.slice A i c) L ∧ SecSt w wr pa pw pb p0 p1 p3 v b si #[.int .i64 x2, .int .i64 x3, .slice A i c]) (fun z14 _ => n - (intOf z14).toNat)
   case atStart => exact ⟨0, 0, none, [], s3, by go_num, by omega, RepI.zero, ListOwn.nil_, SC.out⟩
   case round =>
    obtain ⟨wy, hwy⟩ : ∃ u, u = wr := ⟨_, rfl⟩
    subst hwy
    obtain ⟨i, c, A, L, si, rfl, hi, hrep, ho, hst⟩ := hrel
    have HREP := Lib.hid hrep
    have HL := Lib.hid hrep.2.1
    have O := Lib.hid ho
    have ST := Lib.hid hst
    clear hrep ho hst SC
    by_cases hlt : i < n
    ·have hlt' : (i : Int) < n := by omega
     go_upto_region 7 with fail
     refine wp_region_end (S := fun W => W.heap[p0]? = some (.cells #[nxV pa pw pb, enV pa pw pb] 75 (0, 0)) ∧ W.heap[p3]? = some (.cells #[.int .i64 x2, .int .i64 x3, .slice A i c] 63 (0, 0))) 10 (by kernel_rfl) ⟨ST.out.x0, ST.out.x3⟩ (fun hHeld => ?_)
     refine tke [1, 8, 10] 0 hHeld ?_;refine tkd [8, 10] 1 hHeld (fun w' hSw => cell3_of hSw.2) ?_;refine tkd [3, 6, 7, 8, 10] 2 hHeld (fun w' hSw => cell2_of hSw.1) ?_;refine tkd [5, 6, 7, 8, 10] 4 hHeld (fun w' hSw => cell2_of hSw.1) ?_
     have ST_v0 := Lib.hid (ST.out.below (Below.refl wy.heap.size wy).drew)
     have O_v0 := Lib.hid (O.out.below joinR (Below.refl wy.heap.size wy).drew)
     generalize wy.drew = v0 at ST_v0 O_v0 hHeld ⊢
     refine wpAnyE_one (i := 3) (by kernel_rfl) rfl (by kernel_rfl) (fun K hK => ?_)
     go_simp
     refine (pnumber_any pa pw pb v b si v0 ST_v0.out.rd).mono ?_
     rintro e v2 ⟨y2, t2, hx2, rfl, hr2, hb2⟩
     have E2 := Lib.hid hx2
     have ST_v2 := Lib.hid (ST_v0.out.next hr2 hb2)
     have O_v2 := Lib.hid (flat_x (T := 92) (sz := 2) (R := JoinR) (pa := pa) (pw := pw) (lo := lo) joinF O_v0.out (by have := LO.out; omega) (by have := LO.out; omega) hb2)
     clear hr2 hb2 hx2 ST_v0 O_v0
     try go_wp2_with fail
     refine hK.out _ _ ?_ fun hHeld => ?_;exact ⟨ST_v2.out.x0, ST_v2.out.x3⟩;clear hK K;try simp only [zn, Act.put]
     refine wpAnyE_one (i := 5) (by kernel_rfl) rfl (by kernel_rfl) (fun K hK => ?_)
     go_simp
     refine (pnumber_any pa pw pb v b t2 v2 ST_v2.out.rd).mono ?_
     rintro e v3 ⟨y3, t3, hx3, rfl, hr3, hb3⟩
     have E3 := Lib.hid hx3
     have ST_v3 := Lib.hid (ST_v2.out.next hr3 hb3)
     have O_v3 := Lib.hid (flat_x (T := 92) (sz := 2) (R := JoinR) (pa := pa) (pw := pw) (lo := lo) joinF O_v2.out (by have := LO.out; omega) (by have := LO.out; omega) hb3)
     clear hr3 hb3 hx3 ST_v2 O_v2
     try go_wp2_with fail
     refine hK.out _ _ ?_ fun hHeld => ?_;exact ⟨ST_v3.out.x0, ST_v3.out.x3⟩;clear hK K;try simp only [zn, Act.put]
     refine tke [7, 8, 10] 6 hHeld ?_
     refine wpAnyE_one (i := 7) (by kernel_rfl) rfl (by kernel_rfl) (fun K hK => ?_)
     go_simp
     have tb := below_new v3 (.cells #[.int .i64 y2, .int .i64 y3] 92)
     have ST_a := Lib.hid (ST_v3.out.below tb)
     clear tb
     refine hK.out _ _ ?_ fun hHeld => ?_;exact ⟨ST_a.out.x0, ST_a.out.x3⟩;clear hK K;try simp only [zn, Act.put]
     refine wpAnyE_one (i := 8) (by kernel_rfl) rfl (by kernel_rfl) (fun K hK => ?_)
     rw [if_pos (by rfl)]
     refine wp_append_one (W := v3) (x := (y2, y3)) (ys := [.int .i64 y2, .int .i64 y3]) (.tmp 17) (.tmp 23) rfl slJoin joinR (fun _ h _ _ => h) rfl rfl O_v3.out HL.out.symm rfl (by simp [Value.oneCell']) ⟨rfl, rfl⟩ (by omega) (by have := heap_lt ST_v3.out.x3; have := LO.out; omega) ?_
     intro AE cE wE hoE hbE
     have OE := Lib.hid hoE
     have SE := Lib.hid (ST_v3.out.keep hbE (by have := LO.out; omega))
     clear hoE hbE
     obtain ⟨cw0, cw1, cw2⟩ := cell3_of SE.out.x3
     have fw := frozen2_of SE.out.x3 2
     refine hK.out _ _ ?_ fun hHeld => ?_;exact ⟨SE.out.x0, SE.out.x3⟩;clear hK K;try simp only [zn, Act.put]
     refine tke [10] 9 hHeld ?_
     refine wpAnyE_last (by kernel_rfl) rfl (by kernel_rfl) (fun K hK => ?_)
     rw [if_pos (by rfl)]
     go_simp
     refine hK.out _ _ ?_
     clear hK K
     have tS := SE.out.set 2 (.slice AE (i + 1) cE)
     have tO : JoinsOwn (wE.setCell ⟨p3, 2, none⟩ (.slice AE (i + 1) cE)) lo (.slice AE (i + 1) cE) (L ++ [(y2, y3)]) := own_kept joinF OE.out (grown_setK wE p3 2 _) (fun g hg => by have h1 := own_lo OE.out g hg; have h2 := LO.out; omega)
     generalize wE.setCell ⟨p3, 2, none⟩ (.slice AE (i + 1) cE) = wF at tS tO ⊢
     have SF := Lib.hid tS
     have OF := Lib.hid tO
     have HX2 := Lib.hid (HREP.out.step hlt (join_read E2.out E3.out))
     clear tS tO SE OE cw0 cw1 cw2 fw ST O
     go_wp2_with fail
     go_roundw
     case measure => simp [intOf]; omega
     case rel => exact ⟨i + 1, cE, AE, L ++ [(y2, y3)], t3, by go_num, by omega, HX2.out, OF.out, SF.out⟩
    ·obtain rfl : n = i := by omega
     have hlt' : ¬ (n : Int) < n := by omega
     obtain ⟨c0, c1, c2⟩ := cell3_of ST.out.x3
     go_wp2_with ((with_reducible show wpList _ _ _ (⟨none, _, _, _, _, _⟩ :: _) _ _); refine wpList_store_rowS rfl _ (.tmp 2) (.tmp 27) rfl p1 rfl (c' := #[.int .i64 x2, .int .i64 x3, .slice A n c]) rfl ST.out.x1 infoSecZ rfl (by simp [Value.oneCell']) ?_)
     refine bodyPost_ret (results_cell_3 rfl _ _ p1 rfl (setRow_heap _ _ _ _ _ _ ST.out.x1) Tryz.underlying63 infoSecZ) rfl ?_
     have hg := grownBy_setRow wy p1 #[.int .i64 x2, .int .i64 x3, .slice A n c]
     have hO : JoinsOwn (wy.setRow p1 #[.int .i64 x2, .int .i64 x3, .slice A n c]) w.heap.size (.slice A n c) L := (own_kept (T := 92) (sz := 2) (R := JoinR) joinF O.out hg (fun g h => by have h1 := own_lo O.out g h; have h2 := LO.out; omega)).mono LO.out.2.2.2.2.2.1
     have hq := ST.out.lt
     exact RdP.intro (x2, x3, L) si (sec_read HJ.out (by rw [← HNE.out]; exact HREP.out.all)) ⟨_, _, _, rfl, HL.out.symm, hO⟩ (ST.out.rd.setRow p1 _ (by omega) (by omega) (by omega)) (ST.out.b.trans (.of (below_setRow (Below.refl _ _) (by omega) _)))
end Go.Proofs.YteloiajocjahmaaGreatDoor
