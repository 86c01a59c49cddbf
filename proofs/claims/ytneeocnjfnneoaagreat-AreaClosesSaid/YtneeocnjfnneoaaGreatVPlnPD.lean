/-
 The program's package plan: rows of numbers one behind the other.
 Conditions: none.
-/
import Derived.Test.YtneeocnjfnneoaaGreatVPlnPC
import Derived.Lib.AppendZeros
set_option linter.unusedVariables false
set_option linter.unusedSimpArgs false
set_option maxRecDepth 100000
namespace Go.Proofs.YtneeocnjfnneoaaGreat
open Go.RowKit

theorem run_grow (n : Nat) (h1 : 1 ≤ n) (hn : n ≤ 1000) (w : World) : ∃ cp w', (∀ ty : TypeId, (Builtin.append_ #[22, 3] ty #[.slice none 0 0, .int .i64 n]).run Tryz.prog w = .ok (.slice (some ⟨w.heap.size, 0, none⟩) n cp) w') ∧ n ≤ cp ∧ cp ≤ maxLen ∧ w'.ownsRow w.heap.size 3 1 (.slice (some ⟨w.heap.size, 0, none⟩) 0 cp) 0 [] ∧ Below w.heap.size w w' := by
 obtain ⟨i0, hi, hz0, hz1, hz2⟩ := info_parts infoInt
 have hge := grownCap_ge w n 0 3
 have hcm : grownCap w n 0 3 ≤ maxLen := grownCap_le_maxLen w n 0 3 (by unfold maxLen; omega)
 refine ⟨_, _, fun ty => Lib.run_append_nil_zeros w 22 3 ty 3 i0 _ .i64 .i64 Tryz.underlying22 Tryz.underlying3 hi hz0 n h1 (by rw [hz1]; omega) (by omega) (by rw [hz2]; omega), hge, hcm, ⟨rfl, .inr ⟨w.heap.size, _, _, rfl, Nat.le_refl _, heap_alloc_new w.drew _, Nat.zero_le _, hcm, ?_, ?_⟩⟩, (Below.refl _ w).drew.alloc (Nat.le_refl _) _⟩
 ·simp only [Array.size_append, size_zeroCells, Value.cells]
  simp; omega
 ·simp
set_option maxHeartbeats 4000000 in
theorem grow_any (n : Nat) (h1 : 1 ≤ n) (hn : n ≤ 1000) (w : World) :
  Calls Tryz.prog 128 #[.slice none 0 0, .int .i64 n] w fun e w' => ∃ A c, e = .returned (.slice A 0 c) ∧ w'.ownsRow w.heap.size 3 1 (.slice A 0 c) 0 [] ∧ Below w.heap.size w w' := by
 obtain ⟨cp, w1, hrun, hcp, hcx, hown, hb⟩ := run_grow n h1 hn w
 have RUN := Lib.hid hrun
 have OWN := Lib.hid hown
 have BB := Lib.hid hb
 have hw : IntKind.i64.wrap (n : Int) = n := wrap_id (by omega) (by omega)
 have hneg : ¬ (n : Int) < 0 := by omega
 have hpos : (0 : Int) < n := by omega
 have hcpb : cp ≤ 9223372036854775807 := by unfold maxLen at hcx; omega
 clear hrun hown hb hcx h1 hn
 go_enter Tryz.func128, Tryz.ntmps128
 go_wp2_with ((with_reducible show wpList _ _ _ (⟨some 22, _, _, _, _, _⟩ :: _) _ _); refine Lib.wpList_append_run _ rfl (.tmp 20) (.tmp 21) _ _ rfl _ _ rfl rfl _ _ (RUN.out _) ?_)
 go_ret
 exact ⟨_, _, rfl, OWN.out, BB.out⟩
set_option maxHeartbeats 8000000 in
theorem concat_any (b : Nat) (A B : Option Addr) (n c k d : Nat) (l m : List Int) (w : World) (hb : w.heap[b]? = some (.cells #[.slice A n c, .slice B k d] 22 (0, 0)))
  (h1 : IntsIn w w.heap.size (.slice A n c) l) (h2 : IntsIn w w.heap.size (.slice B k d) m) (hn : n = l.length) (hk : k = m.length) (hp : 1 ≤ n + k) (hnk : n + k ≤ 1000) :
  Calls Tryz.prog 115 #[.slice (some ⟨b, 0, none⟩) 2 2] w fun e w' => ∃ A' c' N, e = .returned (.slice A' N c') ∧ N = (l ++ m).length ∧ IntsIn w' w'.heap.size (.slice A' N c') (l ++ m) ∧ Below w.heap.size w w' := by
 have X := Lib.hid hb
 have H1 := Lib.hid h1
 have H2 := Lib.hid h2
 have HLN : Hid (n = l.length ∧ k = m.length) := Lib.hid ⟨hn, hk⟩
 have HPK : Hid (1 ≤ n + k ∧ n + k ≤ 1000) := Lib.hid ⟨hp, hnk⟩
 obtain ⟨N, hN⟩ : ∃ N, N = n + k := ⟨_, rfl⟩
 have HN := Lib.hid hN
 have hw1 : IntKind.i64.wrap (n : Int) = n := wrap_id (by omega) (by omega)
 have hw2 : IntKind.i64.wrap ((n : Int) + k) = (N : Int) := by rw [wrap_id (by omega) (by omega)]; omega
 have hb1 : n ≤ 9223372036854775807 := by omega
 have hb2 : k ≤ 9223372036854775807 := by omega
 have hd1 : ¬ (n : Int) < 0 := by omega
 have hd2 : ¬ (N : Int) < 0 := by omega
 obtain ⟨i0, hi, hz0, hz1, hz2⟩ := info_parts infoInt
 have I0 := Lib.hid hi
 have I1 := Lib.hid hz0
 have I2 := Lib.hid hz1
 have I3 := Lib.hid hz2
 clear hi hz0 hz1 hz2 hb h1 h2 hn hk hp hnk hN
 have TOT : Hid (∀ i : Nat, i ≤ 2 → i = 0 ∨ i = 1 ∨ i = 2) := Lib.hid (fun i h => by omega)
 go_enter Tryz.func115, Tryz.ntmps115
 go_wp2_with fail
 go_loopw [3, 11] (fun s3 s11 wr => wr = w ∧ ((s11 = .int .i64 0 ∧ s3 = .int .i64 0) ∨ (s11 = .int .i64 1 ∧ s3 = .int .i64 n) ∨ (s11 = .int .i64 2 ∧ s3 = .int .i64 N))) (fun _ s11 _ => 2 - (intOf s11).toNat)
 case atStart => exact ⟨rfl, .inl ⟨rfl, rfl⟩⟩
 case round =>
  obtain ⟨rfl, hc⟩ := hrel
  rcases hc with ⟨rfl, rfl⟩ | ⟨rfl, rfl⟩ | ⟨rfl, rfl⟩
  ·obtain ⟨k0, k1⟩ := cell2_of X.out
   go_wp2_with fail
   go_roundw
   case measure => simp [intOf]
   case rel => exact ⟨trivial, .inr (.inl ⟨by go_num, by go_num⟩)⟩
  ·obtain ⟨k0, k1⟩ := cell2_of X.out
   go_wp2_with fail
   go_roundw
   case measure => simp [intOf]
   case rel => exact ⟨trivial, .inr (.inr ⟨by go_num, by go_num⟩)⟩
  ·go_wp2_with fail
   refine (grow_any N (by have := HPK.out; have := HN.out; omega) (by have := HPK.out; have := HN.out; omega) _).mono ?_
   rintro e w1 ⟨A1, c1, rfl, hown, b1⟩
   have O1 : Hid (ListOwn 3 1 IntR w1 wr.heap.size (.slice A1 0 c1) ([] : List Int)) := Lib.hid ⟨[], hown, rfl, Nat.zero_le _, (fun _ h => by cases h), fun j ys x h => by simp at h⟩
   have B1 := Lib.hid b1
   clear hown b1
   go_wp2_with fail
   go_loopw [6, 27] (fun s6 s27 ww => Below wr.heap.size wr ww ∧ ∃ A6 c6, (s27 = .int .i64 0 ∧ s6 = .slice A6 0 c6 ∧ ListOwn 3 1 IntR ww wr.heap.size (.slice A6 0 c6) ([] : List Int)) ∨ (s27 = .int .i64 1 ∧ s6 = .slice A6 n c6 ∧ ListOwn 3 1 IntR ww wr.heap.size (.slice A6 n c6) l) ∨ (s27 = .int .i64 2 ∧ s6 = .slice A6 N c6 ∧ ListOwn 3 1 IntR ww wr.heap.size (.slice A6 N c6) (l ++ m))) (fun _ s27 _ => 2 - (intOf s27).toNat)
   case atStart => exact ⟨B1.out, _, _, .inl ⟨rfl, rfl, O1.out⟩⟩
   case round =>
    obtain ⟨hbw, A6, c6, hc⟩ := hrel
    have BW := Lib.hid hbw
    have XW := Lib.hid ((hbw.block _ (heap_lt X.out)).trans X.out)
    clear hbw O1 B1
    rcases hc with ⟨rfl, rfl, how⟩ | ⟨rfl, rfl, how⟩ | ⟨rfl, rfl, how⟩
    ·have OW := Lib.hid how
     clear how
     obtain ⟨k0, k1⟩ := cell2_of XW.out
     obtain ⟨zss, hy1, hy2, hy3, hy4, hy5, hy6, hy7⟩ := (((H1.out).below intR BW.out).more intR BW.out.size).cells (by omega) intR_full intR_cells
     obtain ⟨yss, ho, hl, hmx, hs2, hr⟩ := OW.out
     have Y1 := Lib.hid hy1
     have Y2 := Lib.hid hy2
     have Y3 := Lib.hid hy3
     have Y4 := Lib.hid hy4
     have Y6 := Lib.hid hy6
     have Y7 := Lib.hid hy7
     have Z0 := Lib.hid ho
     have Z1 := Lib.hid hl
     have Z2 := Lib.hid hs2
     have Z3 := Lib.hid hr
     have YL : Hid (zss.flatten.length = n * 1) := Lib.hid (by rw [flat_length _ hy2, hy1, HLN.out.1])
     clear hy1 hy2 hy3 hy4 hy5 hy6 hy7 ho hl hmx hs2 hr
     go_wp2_with ((with_reducible show wpList _ _ _ (⟨some 33, _, _, _, _, _⟩ :: _) _ _); refine wpList_append_list rfl (.tmp 31) (.tmp 32) _ rfl Tryz.underlying22 I0.out I1.out rfl I2.out (by decide) I3.out (by decide) rfl (by have := Z0.out; rw [show ([] : List Int).length = 0 from rfl] at this; exact this) rfl YL.out Y4.out Y7.out Y6.out (by have := HPK.out; omega) BW.out.size ?_; intro v3 w3 hown3 hgrow3; rw [Nat.zero_add] at hown3; obtain ⟨A3, c3, rfl⟩ := own_sliceN hown3; have O3 := Lib.hid hown3; have B3 := Lib.hid (BW.out.grown hgrow3 BW.out.size (own_ge Z0.out)); clear hown3 hgrow3)
     have OC := Lib.hid (own_cat (R := IntR) (sz := 1) intF O3.out (by rw [show ([] : List Int).length = 0 from rfl, Nat.zero_add]; exact HLN.out.1) Z1.out Y1.out Z2.out Y2.out Z3.out Y3.out (by have := HPK.out; have := HN.out; unfold maxLen; omega))
     go_roundw
     case measure => simp [intOf]
     case rel => exact ⟨B3.out, _, _, .inr (.inl ⟨by go_num, rfl, OC.out⟩)⟩
    ·have OW := Lib.hid how
     clear how
     obtain ⟨k0, k1⟩ := cell2_of XW.out
     obtain ⟨zss, hy1, hy2, hy3, hy4, hy5, hy6, hy7⟩ := (((H2.out).below intR BW.out).more intR BW.out.size).cells (by omega) intR_full intR_cells
     obtain ⟨yss, ho, hl, hmx, hs2, hr⟩ := OW.out
     have Y1 := Lib.hid hy1
     have Y2 := Lib.hid hy2
     have Y3 := Lib.hid hy3
     have Y4 := Lib.hid hy4
     have Y6 := Lib.hid hy6
     have Y7 := Lib.hid hy7
     have Z0 := Lib.hid ho
     have Z1 := Lib.hid hl
     have Z2 := Lib.hid hs2
     have Z3 := Lib.hid hr
     have YL : Hid (zss.flatten.length = k * 1) := Lib.hid (by rw [flat_length _ hy2, hy1, HLN.out.2])
     clear hy1 hy2 hy3 hy4 hy5 hy6 hy7 ho hl hmx hs2 hr
     go_wp2_with ((with_reducible show wpList _ _ _ (⟨some 33, _, _, _, _, _⟩ :: _) _ _); refine wpList_append_list rfl (.tmp 31) (.tmp 32) _ rfl Tryz.underlying22 I0.out I1.out rfl I2.out (by decide) I3.out (by decide) rfl (by have := Z0.out; rw [← HLN.out.1] at this; exact this) rfl YL.out Y4.out Y7.out Y6.out (by have := HPK.out; omega) BW.out.size ?_; intro v3 w3 hown3 hgrow3; rw [← HN.out] at hown3; obtain ⟨A3, c3, rfl⟩ := own_sliceN hown3; have O3 := Lib.hid hown3; have B3 := Lib.hid (BW.out.grown hgrow3 BW.out.size (own_ge Z0.out)); clear hown3 hgrow3)
     have OC := Lib.hid (own_cat (R := IntR) (sz := 1) intF O3.out (by rw [← HLN.out.1, ← HLN.out.2]; exact HN.out) Z1.out Y1.out Z2.out Y2.out Z3.out Y3.out (by have := HPK.out; have := HN.out; unfold maxLen; omega))
     go_roundw
     case measure => simp [intOf]
     case rel => exact ⟨B3.out, _, _, .inr (.inr ⟨by go_num, rfl, OC.out⟩)⟩
    ·have OW := Lib.hid how
     clear how
     go_wp2_with fail
     go_ret
     exact ⟨_, _, _, rfl, by rw [List.length_append, ← HLN.out.1, ← HLN.out.2]; exact HN.out, OW.out.in_ intR_cells, BW.out⟩
end Go.Proofs.YtneeocnjfnneoaaGreat
