/-
 The program's package pack: lists of numbers, points, signals, flanks read.
 Conditions: none.
-/
import Derived.Test.YteloiajocjahmaaGreatSGPckPE
set_option linter.unusedVariables false
set_option linter.unusedSimpArgs false
set_option maxRecDepth 100000
namespace Go.Proofs.YteloiajocjahmaaGreat
open Go.RowKit

set_option maxHeartbeats 4000000 in
theorem plist_int (most : Int) (pa pw pb : Nat) (v : Value) (b : List UInt8) (s : St) (w : World) (h : Rdr w pa pw pb v b s) (h0 : 0 ≤ most) (hm : most ≤ 100) :
  Calls Tryz.prog 57 #[(.agg #[nxV pa pw pb, enV pa pw pb]), .int .i64 most, .func (.func 20) #[(.agg #[nxV pa pw pb, enV pa pw pb])] #[]] w fun e w' => RdP (listM b most (numM b) s) w pa pw pb v b (fun x w' => ∃ A n c, e = .returned (.slice A n c) ∧ n = x.length ∧ n ≤ 100 ∧ IntsOwn w' w.heap.size (.slice A n c) x) w' := by
 have HR := Lib.hid h
 have hlt := h.lt
 have hq0 := heap_alloc_self w (.cells #[nxV pa pw pb, enV pa pw pb] 59)
 have hqb := below_new w (.cells #[nxV pa pw pb, enV pa pw pb] 59)
 clear h
 go_enter Tryz.func57, Tryz.ntmps57
 go_upto_region 1 with fail
 generalize w.alloc (.cells #[nxV pa pw pb, enV pa pw pb] 59) = q at hq0 hqb ⊢
 have R1 := Lib.hid (HR.out.below hqb)
 have B1 : Hid (BelowX pa pw w.heap.size w q) := Lib.hid (.of hqb)
 have PP : Hid (pa < w.heap.size ∧ pw < w.heap.size ∧ pb < w.heap.size) := Lib.hid hlt
 obtain ⟨k0, k1⟩ := cell2_of hq0
 clear hq0 hqb HR hlt
 go_wp2_with fail
 refine (prnext_any most pa pw pb v b s q R1.out).mono ?_
 rintro e w1 ⟨x, s1, hx, rfl, hr, hb⟩
 obtain ⟨n, rfl, hn⟩ := next_nat R1.out.le h0 hx
 have HX := Lib.hid hx
 have R2 := Lib.hid hr
 have B2 := Lib.hid (B1.out.step hb (Nat.le_refl _))
 have hn4 : n ≤ 100 := by omega
 have HN := Lib.hid hn4
 clear hr hb hx R1 B1 k0 k1 hn h0 hm
 go_wp2_with fail
 go_loopw [7, 12] (fun s7 s12 wr => ∃ (i c : Nat) (A : Option Addr) (L : List Int) (si : St), s12 = .int .i64 i ∧ i ≤ n ∧ s7 = .slice A i c ∧ RepI (numM b) n s1 i L si ∧ IntsOwn wr w.heap.size (.slice A i c) L ∧ Rdr wr pa pw pb v b si ∧ BelowX pa pw w.heap.size w wr) (fun _ s12 _ => n - (intOf s12).toNat)
 case atStart => exact ⟨0, 0, none, [], s1, by go_num, by omega, rfl, RepI.zero, ListOwn.nil_, R2.out, B2.out⟩
 case round =>
  obtain ⟨i, c, A, L, si, rfl, hi, rfl, hrep, ho, hr, hb⟩ := hrel
  have HREP := Lib.hid hrep
  have HO := Lib.hid ho
  have RR := Lib.hid hr
  have BB := Lib.hid hb
  clear hrep ho hr hb R2 B2
  by_cases hlt : i < n
  ·have hlt' : (i : Int) < n := by omega
   go_wp2_with fail
   refine (pnumber_any pa pw pb v b si wr RR.out).mono ?_
   rintro e w2 ⟨x, s2, hx, rfl, hr, hb⟩
   have R3 := Lib.hid hr
   have B3 := Lib.hid (BB.out.step hb (Nat.le_refl _))
   have O3 : Hid (IntsOwn w2 w.heap.size (.slice A i c) L) := Lib.hid (flat_x intF HO.out PP.out.1 PP.out.2.1 hb)
   have HX2 := Lib.hid (HREP.out.step hlt hx)
   have HL := Lib.hid HREP.out.2.1
   clear hr hb hx
   go_wp2_with ((with_reducible show wpList _ _ _ (⟨some 18, _, _, _, _, _⟩ :: _) _ _); refine wpList_append_one (W := w2) (x := x) (ys := [.int .i64 x]) rfl (.tmp 14) (.tmp 17) rfl slInt intR (fun _ h _ _ => h) rfl rfl O3.out HL.out.symm rfl (by simp [Value.oneCell']) rfl (by omega) B3.out.size ?_; intro A5 c5 w5 ho5 hb5; have O5 := Lib.hid ho5; have B5 := Lib.hid hb5; clear ho5 hb5)
   go_roundw
   case measure => simp [intOf]; omega
   case rel => exact ⟨i + 1, c5, A5, L ++ [x], s2, by go_num, by omega, rfl, HX2.out, O5.out, R3.out.keep B5.out PP.out.1 PP.out.2.1 PP.out.2.2, B3.out.trans (.of B5.out)⟩
  ·obtain rfl : n = i := by omega
   have hlt' : ¬ (n : Int) < n := by omega
   have HA := Lib.hid (list_read HX.out HREP.out.all)
   have HL := Lib.hid HREP.out.2.1
   go_wp2_with fail
   go_ret
   exact RdP.intro L si HA.out ⟨_, _, _, rfl, HL.out.symm, HN.out, HO.out⟩ RR.out BB.out
set_option maxHeartbeats 4000000 in
theorem plist_flank (most : Int) (pa pw pb : Nat) (v : Value) (b : List UInt8) (s : St) (w : World) (h : Rdr w pa pw pb v b s) (h0 : 0 ≤ most) (hm : most ≤ 100) :
  Calls Tryz.prog 58 #[(.agg #[nxV pa pw pb, enV pa pw pb]), .int .i64 most, .func (.func 59) #[(.agg #[nxV pa pw pb, enV pa pw pb])] #[]] w fun e w' => RdP (listM b most (joinM b) s) w pa pw pb v b (fun x w' => ∃ A n c, e = .returned (.slice A n c) ∧ n = x.length ∧ n ≤ 100 ∧ FlanksOwn w' w.heap.size (.slice A n c) x) w' := by
 have HR := Lib.hid h
 have hlt := h.lt
 have hq0 := heap_alloc_self w (.cells #[nxV pa pw pb, enV pa pw pb] 59)
 have hqb := below_new w (.cells #[nxV pa pw pb, enV pa pw pb] 59)
 clear h
 go_enter Tryz.func58, Tryz.ntmps58
 go_upto_region 1 with fail
 generalize w.alloc (.cells #[nxV pa pw pb, enV pa pw pb] 59) = q at hq0 hqb ⊢
 have R1 := Lib.hid (HR.out.below hqb)
 have B1 : Hid (BelowX pa pw w.heap.size w q) := Lib.hid (.of hqb)
 have PP : Hid (pa < w.heap.size ∧ pw < w.heap.size ∧ pb < w.heap.size) := Lib.hid hlt
 obtain ⟨k0, k1⟩ := cell2_of hq0
 clear hq0 hqb HR hlt
 go_wp2_with fail
 refine (prnext_any most pa pw pb v b s q R1.out).mono ?_
 rintro e w1 ⟨x, s1, hx, rfl, hr, hb⟩
 obtain ⟨n, rfl, hn⟩ := next_nat R1.out.le h0 hx
 have HX := Lib.hid hx
 have R2 := Lib.hid hr
 have B2 := Lib.hid (B1.out.step hb (Nat.le_refl _))
 have hn4 : n ≤ 100 := by omega
 have HN := Lib.hid hn4
 clear hr hb hx R1 B1 k0 k1 hn h0 hm
 go_wp2_with fail
 go_loopw [7, 12] (fun s7 s12 wr => ∃ (i c : Nat) (A : Option Addr) (L : List Jn) (si : St), s12 = .int .i64 i ∧ i ≤ n ∧ s7 = .slice A i c ∧ RepI (joinM b) n s1 i L si ∧ FlanksOwn wr w.heap.size (.slice A i c) L ∧ Rdr wr pa pw pb v b si ∧ BelowX pa pw w.heap.size w wr) (fun _ s12 _ => n - (intOf s12).toNat)
 case atStart => exact ⟨0, 0, none, [], s1, by go_num, by omega, rfl, RepI.zero, ListOwn.nil_, R2.out, B2.out⟩
 case round =>
  obtain ⟨i, c, A, L, si, rfl, hi, rfl, hrep, ho, hr, hb⟩ := hrel
  have HREP := Lib.hid hrep
  have HO := Lib.hid ho
  have RR := Lib.hid hr
  have BB := Lib.hid hb
  clear hrep ho hr hb R2 B2
  by_cases hlt : i < n
  ·have hlt' : (i : Int) < n := by omega
   go_wp2_with fail
   refine (pflankR_any pa pw pb v b si wr RR.out).mono ?_
   rintro e w2 ⟨x, s2, hx, rfl, hr, hb⟩
   have R3 := Lib.hid hr
   have B3 := Lib.hid (BB.out.step hb (Nat.le_refl _))
   have O3 : Hid (FlanksOwn w2 w.heap.size (.slice A i c) L) := Lib.hid (flat_x joinF HO.out PP.out.1 PP.out.2.1 hb)
   have HX2 := Lib.hid (HREP.out.step hlt hx)
   have HL := Lib.hid HREP.out.2.1
   clear hr hb hx
   go_wp2_with ((with_reducible show wpList _ _ _ (⟨some 18, _, _, _, _, _⟩ :: _) _ _); refine wpList_append_one (W := w2) (x := x) (ys := [.int .i64 x.1, .int .i64 x.2]) rfl (.tmp 14) (.tmp 17) rfl slFlank joinR (fun _ h _ _ => h) rfl rfl O3.out HL.out.symm rfl (by simp [Value.oneCell']) ⟨rfl, rfl⟩ (by omega) B3.out.size ?_; intro A5 c5 w5 ho5 hb5; have O5 := Lib.hid ho5; have B5 := Lib.hid hb5; clear ho5 hb5)
   go_roundw
   case measure => simp [intOf]; omega
   case rel => exact ⟨i + 1, c5, A5, L ++ [x], s2, by go_num, by omega, rfl, HX2.out, O5.out, R3.out.keep B5.out PP.out.1 PP.out.2.1 PP.out.2.2, B3.out.trans (.of B5.out)⟩
  ·obtain rfl : n = i := by omega
   have hlt' : ¬ (n : Int) < n := by omega
   have HA := Lib.hid (list_read HX.out HREP.out.all)
   have HL := Lib.hid HREP.out.2.1
   go_wp2_with fail
   go_ret
   exact RdP.intro L si HA.out ⟨_, _, _, rfl, HL.out.symm, HN.out, HO.out⟩ RR.out BB.out
set_option maxHeartbeats 4000000 in
theorem plist_point (most : Int) (pa pw pb : Nat) (v : Value) (b : List UInt8) (s : St) (w : World) (h : Rdr w pa pw pb v b s) (h0 : 0 ≤ most) (hm : most ≤ 100) :
  Calls Tryz.prog 23 #[(.agg #[nxV pa pw pb, enV pa pw pb]), .int .i64 most, .func (.func 24) #[(.agg #[nxV pa pw pb, enV pa pw pb])] #[]] w fun e w' => RdP (listM b most (joinM b) s) w pa pw pb v b (fun x w' => ∃ A n c, e = .returned (.slice A n c) ∧ n = x.length ∧ n ≤ 100 ∧ PointsOwn w' w.heap.size (.slice A n c) x) w' := by
 have HR := Lib.hid h
 have hlt := h.lt
 have hq0 := heap_alloc_self w (.cells #[nxV pa pw pb, enV pa pw pb] 59)
 have hqb := below_new w (.cells #[nxV pa pw pb, enV pa pw pb] 59)
 clear h
 go_enter Tryz.func23, Tryz.ntmps23
 go_upto_region 1 with fail
 generalize w.alloc (.cells #[nxV pa pw pb, enV pa pw pb] 59) = q at hq0 hqb ⊢
 have R1 := Lib.hid (HR.out.below hqb)
 have B1 : Hid (BelowX pa pw w.heap.size w q) := Lib.hid (.of hqb)
 have PP : Hid (pa < w.heap.size ∧ pw < w.heap.size ∧ pb < w.heap.size) := Lib.hid hlt
 obtain ⟨k0, k1⟩ := cell2_of hq0
 clear hq0 hqb HR hlt
 go_wp2_with fail
 refine (prnext_any most pa pw pb v b s q R1.out).mono ?_
 rintro e w1 ⟨x, s1, hx, rfl, hr, hb⟩
 obtain ⟨n, rfl, hn⟩ := next_nat R1.out.le h0 hx
 have HX := Lib.hid hx
 have R2 := Lib.hid hr
 have B2 := Lib.hid (B1.out.step hb (Nat.le_refl _))
 have hn4 : n ≤ 100 := by omega
 have HN := Lib.hid hn4
 clear hr hb hx R1 B1 k0 k1 hn h0 hm
 go_wp2_with fail
 go_loopw [7, 12] (fun s7 s12 wr => ∃ (i c : Nat) (A : Option Addr) (L : List Jn) (si : St), s12 = .int .i64 i ∧ i ≤ n ∧ s7 = .slice A i c ∧ RepI (joinM b) n s1 i L si ∧ PointsOwn wr w.heap.size (.slice A i c) L ∧ Rdr wr pa pw pb v b si ∧ BelowX pa pw w.heap.size w wr) (fun _ s12 _ => n - (intOf s12).toNat)
 case atStart => exact ⟨0, 0, none, [], s1, by go_num, by omega, rfl, RepI.zero, ListOwn.nil_, R2.out, B2.out⟩
 case round =>
  obtain ⟨i, c, A, L, si, rfl, hi, rfl, hrep, ho, hr, hb⟩ := hrel
  have HREP := Lib.hid hrep
  have HO := Lib.hid ho
  have RR := Lib.hid hr
  have BB := Lib.hid hb
  clear hrep ho hr hb R2 B2
  by_cases hlt : i < n
  ·have hlt' : (i : Int) < n := by omega
   go_wp2_with fail
   refine (ppointR_any pa pw pb v b si wr RR.out).mono ?_
   rintro e w2 ⟨x, s2, hx, rfl, hr, hb⟩
   have R3 := Lib.hid hr
   have B3 := Lib.hid (BB.out.step hb (Nat.le_refl _))
   have O3 : Hid (PointsOwn w2 w.heap.size (.slice A i c) L) := Lib.hid (flat_x joinF HO.out PP.out.1 PP.out.2.1 hb)
   have HX2 := Lib.hid (HREP.out.step hlt hx)
   have HL := Lib.hid HREP.out.2.1
   clear hr hb hx
   go_wp2_with ((with_reducible show wpList _ _ _ (⟨some 18, _, _, _, _, _⟩ :: _) _ _); refine wpList_append_one (W := w2) (x := x) (ys := [.int .i64 x.1, .int .i64 x.2]) rfl (.tmp 14) (.tmp 17) rfl slPoint joinR (fun _ h _ _ => h) rfl rfl O3.out HL.out.symm rfl (by simp [Value.oneCell']) ⟨rfl, rfl⟩ (by omega) B3.out.size ?_; intro A5 c5 w5 ho5 hb5; have O5 := Lib.hid ho5; have B5 := Lib.hid hb5; clear ho5 hb5)
   go_roundw
   case measure => simp [intOf]; omega
   case rel => exact ⟨i + 1, c5, A5, L ++ [x], s2, by go_num, by omega, rfl, HX2.out, O5.out, R3.out.keep B5.out PP.out.1 PP.out.2.1 PP.out.2.2, B3.out.trans (.of B5.out)⟩
  ·obtain rfl : n = i := by omega
   have hlt' : ¬ (n : Int) < n := by omega
   have HA := Lib.hid (list_read HX.out HREP.out.all)
   have HL := Lib.hid HREP.out.2.1
   go_wp2_with fail
   go_ret
   exact RdP.intro L si HA.out ⟨_, _, _, rfl, HL.out.symm, HN.out, HO.out⟩ RR.out BB.out
set_option maxHeartbeats 4000000 in
theorem plist_signal (most : Int) (pa pw pb : Nat) (v : Value) (b : List UInt8) (s : St) (w : World) (h : Rdr w pa pw pb v b s) (h0 : 0 ≤ most) (hm : most ≤ 100) :
  Calls Tryz.prog 25 #[(.agg #[nxV pa pw pb, enV pa pw pb]), .int .i64 most, .func (.func 26) #[(.agg #[nxV pa pw pb, enV pa pw pb])] #[]] w fun e w' => RdP (listM b most (sigM b) s) w pa pw pb v b (fun x w' => ∃ A n c, e = .returned (.slice A n c) ∧ n = x.length ∧ n ≤ 100 ∧ SigsOwn w' w.heap.size (.slice A n c) x) w' := by
 have HR := Lib.hid h
 have hlt := h.lt
 have hq0 := heap_alloc_self w (.cells #[nxV pa pw pb, enV pa pw pb] 59)
 have hqb := below_new w (.cells #[nxV pa pw pb, enV pa pw pb] 59)
 clear h
 go_enter Tryz.func25, Tryz.ntmps25
 go_upto_region 1 with fail
 generalize w.alloc (.cells #[nxV pa pw pb, enV pa pw pb] 59) = q at hq0 hqb ⊢
 have R1 := Lib.hid (HR.out.below hqb)
 have B1 : Hid (BelowX pa pw w.heap.size w q) := Lib.hid (.of hqb)
 have PP : Hid (pa < w.heap.size ∧ pw < w.heap.size ∧ pb < w.heap.size) := Lib.hid hlt
 obtain ⟨k0, k1⟩ := cell2_of hq0
 clear hq0 hqb HR hlt
 go_wp2_with fail
 refine (prnext_any most pa pw pb v b s q R1.out).mono ?_
 rintro e w1 ⟨x, s1, hx, rfl, hr, hb⟩
 obtain ⟨n, rfl, hn⟩ := next_nat R1.out.le h0 hx
 have HX := Lib.hid hx
 have R2 := Lib.hid hr
 have B2 := Lib.hid (B1.out.step hb (Nat.le_refl _))
 have hn4 : n ≤ 100 := by omega
 have HN := Lib.hid hn4
 clear hr hb hx R1 B1 k0 k1 hn h0 hm
 go_wp2_with fail
 go_loopw [7, 12] (fun s7 s12 wr => ∃ (i c : Nat) (A : Option Addr) (L : List Sg) (si : St), s12 = .int .i64 i ∧ i ≤ n ∧ s7 = .slice A i c ∧ RepI (sigM b) n s1 i L si ∧ SigsOwn wr w.heap.size (.slice A i c) L ∧ Rdr wr pa pw pb v b si ∧ BelowX pa pw w.heap.size w wr) (fun _ s12 _ => n - (intOf s12).toNat)
 case atStart => exact ⟨0, 0, none, [], s1, by go_num, by omega, rfl, RepI.zero, ListOwn.nil_, R2.out, B2.out⟩
 case round =>
  obtain ⟨i, c, A, L, si, rfl, hi, rfl, hrep, ho, hr, hb⟩ := hrel
  have HREP := Lib.hid hrep
  have HO := Lib.hid ho
  have RR := Lib.hid hr
  have BB := Lib.hid hb
  clear hrep ho hr hb R2 B2
  by_cases hlt : i < n
  ·have hlt' : (i : Int) < n := by omega
   go_wp2_with fail
   refine (psigR_any pa pw pb v b si wr RR.out).mono ?_
   rintro e w2 ⟨x, s2, hx, rfl, hr, hb⟩
   have R3 := Lib.hid hr
   have B3 := Lib.hid (BB.out.step hb (Nat.le_refl _))
   have O3 : Hid (SigsOwn w2 w.heap.size (.slice A i c) L) := Lib.hid (flat_x sigF HO.out PP.out.1 PP.out.2.1 hb)
   have HX2 := Lib.hid (HREP.out.step hlt hx)
   have HL := Lib.hid HREP.out.2.1
   clear hr hb hx
   go_wp2_with ((with_reducible show wpList _ _ _ (⟨some 18, _, _, _, _, _⟩ :: _) _ _); refine wpList_append_one (W := w2) (x := x) (ys := [.int .i64 x.1, .int .i64 x.2.1, .int .i64 x.2.2]) rfl (.tmp 14) (.tmp 17) rfl slSig sigR (fun _ h _ _ => h) rfl rfl O3.out HL.out.symm rfl (by simp [Value.oneCell']) ⟨rfl, rfl, rfl⟩ (by omega) B3.out.size ?_; intro A5 c5 w5 ho5 hb5; have O5 := Lib.hid ho5; have B5 := Lib.hid hb5; clear ho5 hb5)
   go_roundw
   case measure => simp [intOf]; omega
   case rel => exact ⟨i + 1, c5, A5, L ++ [x], s2, by go_num, by omega, rfl, HX2.out, O5.out, R3.out.keep B5.out PP.out.1 PP.out.2.1 PP.out.2.2, B3.out.trans (.of B5.out)⟩
  ·obtain rfl : n = i := by omega
   have hlt' : ¬ (n : Int) < n := by omega
   have HA := Lib.hid (list_read HX.out HREP.out.all)
   have HL := Lib.hid HREP.out.2.1
   go_wp2_with fail
   go_ret
   exact RdP.intro L si HA.out ⟨_, _, _, rfl, HL.out.symm, HN.out, HO.out⟩ RR.out BB.out
end Go.Proofs.YteloiajocjahmaaGreat
