/-
 The program's package pack: its reader.
 Conditions: none.
-/
import Derived.Test.YteloiajocjahmaaGreatDoorSGPckP
import Derived.Test.YteloiajocjahmaaGreatDoorSGCodG
import Derived.Test.YteloiajocjahmaaGreatDoorSGPlnRefD
set_option linter.unusedVariables false
set_option linter.unusedSimpArgs false
set_option maxRecDepth 100000
namespace Go.Proofs.YteloiajocjahmaaGreatDoor
open Go.RowKit

/-- The reader's two functions. -/
abbrev nxV (pa pw pb : Nat) : Value := .func (.func 72) #[] #[.pointer (some ⟨pb, 0, none⟩), .pointer (some ⟨pa, 0, none⟩), .pointer (some ⟨pw, 0, none⟩)]
abbrev enV (pa pw pb : Nat) : Value := .func (.func 74) #[] #[.pointer (some ⟨pw, 0, none⟩), .pointer (some ⟨pa, 0, none⟩), .pointer (some ⟨pb, 0, none⟩)]
/-- Something was read: what the plain function says, and the boxes behind it. -/
def RdP {α : Type} (m : α × St) (w : World) (pa pw pb : Nat) (v : Value) (b : List UInt8) (ok : α → World → Prop) (w' : World) : Prop := ∃ x s', m = (x, s') ∧ ok x w' ∧ Rdr w' pa pw pb v b s' ∧ BelowX pa pw w.heap.size w w'
theorem RdP.intro {α : Type} {m : α × St} {w w' : World} {pa pw pb : Nat} {v : Value} {b : List UInt8} {ok : α → World → Prop} (x : α) (s' : St) (h1 : m = (x, s')) (h2 : ok x w') (h3 : Rdr w' pa pw pb v b s') (h4 : BelowX pa pw w.heap.size w w') : RdP m w pa pw pb v b ok w' := ⟨x, s', h1, h2, h3, h4⟩
set_option maxHeartbeats 4000000 in
theorem prnext_any (most : Int) (pa pw pb : Nat) (v : Value) (b : List UInt8) (s : St) (w : World) (h : Rdr w pa pw pb v b s) :
  Calls Tryz.prog 72 #[.int .i64 most, .pointer (some ⟨pb, 0, none⟩), .pointer (some ⟨pa, 0, none⟩), .pointer (some ⟨pw, 0, none⟩)] w fun e w' => RdP (nextM b most s) w pa pw pb v b (fun x w' => e = .returned (.int .i64 x)) w' := by
 obtain ⟨at_, well⟩ := s
 have HR := Lib.hid h
 have hle : at_ ≤ b.length := h.le
 have hfew : b.length ≤ 10000 := h.few
 have HC := Lib.hid (next_cases b most (at_, well) hle)
 obtain ⟨f0, f1, f2, f3, f4⟩ := h.cells
 dsimp only at f0 f1 f2 HC
 have HLE := Lib.hid hle
 have HFEW := Lib.hid hfew
 clear h hle hfew
 go_enter Tryz.func72, Tryz.ntmps72
 go_upto_region 1 with fail
 go_wp2_with fail
 refine (get_any v b at_ w HR.out.text).mono ?_
 rintro e w1 ⟨rfl, b1⟩
 have R1 := Lib.hid (HR.out.below b1)
 have B1 : Hid (BelowX pa pw w.heap.size w w1) := Lib.hid (.of b1)
 clear b1 f0 f1 f2 f3 f4 HR
 obtain ⟨f0, f1, f2, f3, f4⟩ := R1.out.cells
 dsimp only at f0 f1 f2
 rcases HC.out with ⟨hw, n, hn, hm, hd, hk, hg, hx⟩ | ⟨hno, hx⟩
 ·have hw : well = true := hw
  subst hw
  have HX := Lib.hid hx
  have HK := Lib.hid hk
  have HG := Lib.hid hg
  rw [hg]
  obtain ⟨k2, hk2⟩ : ∃ k, k = at_ + (bytesOf n).length := ⟨_, rfl⟩
  rw [← hk2] at hk hx ⊢
  have HX := Lib.hid hx
  have HK := Lib.hid hk
  have hm' : (n : Int) ≤ most := hm
  clear hx hk hg hd hk2 HC HG hm
  go_upto_region 3 with fail
  have R2 := Lib.hid (R1.out.setW true)
  have B2 := Lib.hid (B1.out.setW 0 (.bool true))
  generalize w1.setCell ⟨pw, 0, none⟩ (.bool true) = w2 at R2 B2 ⊢
  clear f0 f1 f2 f3 f4
  obtain ⟨f0, f1, f2, f3, f4⟩ := R2.out.cells
  dsimp only at f0 f1 f2
  go_wp2_with fail
  go_ret
  exact RdP.intro (n : Int) (k2, true) HX.out rfl (R2.out.setA k2 HK.out) (B2.out.setA 0 _)
 ·have HX := Lib.hid hx
  obtain ⟨N1, N2, E, hg⟩ : ∃ x y z, getSpec b (at_ : Int) = (x, y, z) := ⟨_, _, _, rfl⟩
  rw [hg] at hno ⊢
  dsimp only at hno
  clear hx HC hg
  cases well with
  | false =>
   clear hno
   go_upto_region 3 with fail
   have R2 := Lib.hid (R1.out.setW false)
   have B2 := Lib.hid (B1.out.setW 0 (.bool false))
   generalize w1.setCell ⟨pw, 0, none⟩ (.bool false) = w2 at R2 B2 ⊢
   clear f0 f1 f2 f3 f4
   obtain ⟨f0, f1, f2, f3, f4⟩ := R2.out.cells
   dsimp only at f0 f1 f2
   go_wp2_with fail
   go_ret
   exact RdP.intro 0 (at_, false) HX.out rfl (R2.out) (B2.out)
  | true =>
   by_cases he : E = 0
   ·subst he
    have hm : decide (N1 ≤ most) = false := decide_eq_false fun h => hno ⟨rfl, rfl, h⟩
    have hm' : ¬ N1 ≤ most := fun h => hno ⟨rfl, rfl, h⟩
    clear hno
    go_upto_region 3 with fail
    have R2 := Lib.hid (R1.out.setW false)
    have B2 := Lib.hid (B1.out.setW 0 (.bool false))
    generalize w1.setCell ⟨pw, 0, none⟩ (.bool false) = w2 at R2 B2 ⊢
    clear f0 f1 f2 f3 f4
    obtain ⟨f0, f1, f2, f3, f4⟩ := R2.out.cells
    dsimp only at f0 f1 f2
    go_wp2_with fail
    go_ret
    exact RdP.intro 0 (at_, false) HX.out rfl (R2.out) (B2.out)
   ·have d0 : (E == 0) = false := by simpa using he
    clear hno he
    go_upto_region 3 with fail
    have R2 := Lib.hid (R1.out.setW false)
    have B2 := Lib.hid (B1.out.setW 0 (.bool false))
    generalize w1.setCell ⟨pw, 0, none⟩ (.bool false) = w2 at R2 B2 ⊢
    clear f0 f1 f2 f3 f4
    obtain ⟨f0, f1, f2, f3, f4⟩ := R2.out.cells
    dsimp only at f0 f1 f2
    go_wp2_with fail
    go_ret
    exact RdP.intro 0 (at_, false) HX.out rfl (R2.out) (B2.out)
theorem pended_any (pa pw pb : Nat) (v : Value) (b : List UInt8) (s : St) (w : World) (h : Rdr w pa pw pb v b s) :
  Calls Tryz.prog 74 #[.pointer (some ⟨pw, 0, none⟩), .pointer (some ⟨pa, 0, none⟩), .pointer (some ⟨pb, 0, none⟩)] w fun e w' => e = .returned (.bool (s.2 && decide (s.1 = b.length))) ∧ w' = w := by
 obtain ⟨at_, well⟩ := s
 obtain ⟨f0, f1, f2, f3, f4⟩ := h.cells
 obtain ⟨A, c, rfl, -⟩ := h.text
 dsimp only at f0 f1 f2 ⊢
 have hle : at_ ≤ b.length := h.le
 have hfew : b.length ≤ 10000 := h.few
 clear h
 obtain ⟨n, hn⟩ : ∃ n, n = b.length := ⟨_, rfl⟩
 rw [← hn] at f2 hle hfew ⊢
 clear hn
 go_enter Tryz.func74, Tryz.ntmps74
 cases well with
 | false =>
  go_wp2_with fail
  go_ret
  exact ⟨rfl, rfl⟩
 | true =>
  by_cases he : at_ = n
  ·subst he
   have d0 : ((at_ : Int) == (at_ : Int)) = true := by simp
   go_wp2_with fail
   go_ret
   exact ⟨by simp, rfl⟩
  ·have d0 : ((at_ : Int) == (n : Int)) = false := by simp; omega
   have HD : Hid (decide (at_ = n) = false) := Lib.hid (decide_eq_false he)
   clear he
   go_wp2_with fail
   go_ret
   exact ⟨by rw [HD.out]; rfl, rfl⟩
theorem pnumber_any (pa pw pb : Nat) (v : Value) (b : List UInt8) (s : St) (w : World) (h : Rdr w pa pw pb v b s) :
  Calls Tryz.prog 31 #[(.agg #[nxV pa pw pb, enV pa pw pb])] w fun e w' => RdP (numM b s) w pa pw pb v b (fun x w' => e = .returned (.int .i64 x)) w' := by
 have HR := Lib.hid h
 have hq0 := heap_alloc_self w (.cells #[nxV pa pw pb, enV pa pw pb] 75)
 have hqb := below_new w (.cells #[nxV pa pw pb, enV pa pw pb] 75)
 clear h
 go_enter Tryz.func31, Tryz.ntmps31
 go_upto_region 1 with fail
 generalize w.alloc (.cells #[nxV pa pw pb, enV pa pw pb] 75) = q at hq0 hqb ⊢
 have R1 := Lib.hid (HR.out.below hqb)
 have B1 : Hid (BelowX pa pw w.heap.size w q) := Lib.hid (.of hqb)
 obtain ⟨k0, k1⟩ := cell2_of hq0
 clear hq0 hqb HR
 go_wp2_with fail
 refine (prnext_any 2147483647 pa pw pb v b s q R1.out).mono ?_
 rintro e w2 ⟨x, s2, hx, rfl, hr, hb⟩
 have R2 := Lib.hid hr
 have B2 := Lib.hid (B1.out.step hb (Nat.le_refl _))
 have HX := Lib.hid hx
 clear hr hb hx
 go_wp2_with fail
 go_ret
 exact RdP.intro x s2 HX.out rfl (R2.out) (B2.out)
theorem reader_size : (Tryz.prog.info? 75).map (·.size) = some 2 := by kernel_rfl
theorem boxes4 (w : World) (a b c d : Obj) : ∃ q, q = (((w.alloc a).alloc b).alloc c).alloc d ∧ q.heap[w.heap.size]? = some a ∧ q.heap[w.heap.size + 1]? = some b ∧ q.heap[w.heap.size + 1 + 1]? = some c ∧ q.heap[w.heap.size + 1 + 1 + 1]? = some d ∧ Below w.heap.size w q := by
 obtain ⟨q3, e3, h0, h1, h2, hs, hb⟩ := boxes3 w a b c
 refine ⟨q3.alloc d, by rw [e3], ?_, ?_, ?_, ?_, hb.alloc hb.size d⟩
 ·rw [heap_alloc_lt _ _ (by omega)]; exact h0
 ·rw [heap_alloc_lt _ _ (by omega)]; exact h1
 ·rw [heap_alloc_lt _ _ (by omega)]; exact h2
 ·have := heap_alloc_self q3 d
  rwa [hs] at this
set_option maxHeartbeats 4000000 in
theorem pover_any (v : Value) (b : List UInt8) (w : World) (h : Txt w w.heap.size v b) (hb : b.length ≤ 10000) :
  Calls Tryz.prog 30 #[v] w fun e w' => ∃ pa pw pb, e = .returned (.agg #[nxV pa pw pb, enV pa pw pb]) ∧ Rdr w' pa pw pb v b (0, true) ∧ w.heap.size ≤ pa ∧ w.heap.size ≤ pw ∧ Below w.heap.size w w' := by
 have HT0 := Lib.hid h
 have HB := Lib.hid hb
 obtain ⟨A, c, rfl, -⟩ := h
 obtain ⟨n, hn⟩ : ∃ n, n = b.length := ⟨_, rfl⟩
 have HT : Hid (Txt w w.heap.size (.slice A n c) b) := Lib.hid (by rw [hn]; exact HT0.out)
 rw [← hn]
 clear hn HT0 hb
 obtain ⟨q, hq, h0, h1, h2, h3, hqb⟩ := boxes4 w (.cells #[.slice A n c] 22) (.cells #[.nilFunc, .nilFunc] 75) (.cells #[.int .i64 0] 3) (.cells #[.bool true] 4)
 go_enter Tryz.func30, Tryz.ntmps30
 go_upto_region 2 with fail
 rw [← hq]
 have R0 : Hid (Rdr q (w.heap.size + 1 + 1) (w.heap.size + 1 + 1 + 1) w.heap.size (.slice A n c) b (0, true)) := Lib.hid ⟨h2, h3, h0, ⟨by omega, by omega, by omega⟩, ⟨w.heap.size, HT.out.below hqb, by omega, by omega, by omega⟩, Nat.zero_le _, HB.out⟩
 have BQ := Lib.hid hqb
 have X1 := Lib.hid h1
 clear h0 h2 h3 hqb hq h1
 obtain ⟨k0, k1⟩ := cell2_of X1.out
 go_wp2_with ((with_reducible show wpList _ _ _ (⟨none, _, _, _, _, _⟩ :: _) _ _); refine wpList_store_rowS rfl _ (.tmp 2) (.tmp 9) rfl (w.heap.size + 1) rfl (c' := #[nxV (w.heap.size + 1 + 1) (w.heap.size + 1 + 1 + 1) w.heap.size, enV (w.heap.size + 1 + 1) (w.heap.size + 1 + 1 + 1) w.heap.size]) rfl X1.out reader_size rfl (by simp [Value.oneCell']) ?_)
 have X2 := setRow_heap q (w.heap.size + 1) _ #[nxV (w.heap.size + 1 + 1) (w.heap.size + 1 + 1 + 1) w.heap.size, enV (w.heap.size + 1 + 1) (w.heap.size + 1 + 1 + 1) w.heap.size] 75 _ X1.out
 refine bodyPost_ret (results_cell_2 rfl _ _ (w.heap.size + 1) rfl X2 Tryz.underlying75 reader_size) rfl ?_
 have BS := below_setRow BQ.out (show w.heap.size ≤ w.heap.size + 1 by omega) #[nxV (w.heap.size + 1 + 1) (w.heap.size + 1 + 1 + 1) w.heap.size, enV (w.heap.size + 1 + 1) (w.heap.size + 1 + 1 + 1) w.heap.size]
 refine ⟨_, _, _, rfl, ?_, by omega, by omega, BS⟩
 obtain ⟨g1, g2, g3, g4, ⟨B, g5, g6, g7⟩, g8, g9⟩ := R0.out
 exact ⟨by rw [setRow_other _ _ _ _ (by omega)]; exact g1, by rw [setRow_other _ _ _ _ (by omega)]; exact g2, by rw [setRow_other _ _ _ _ (by omega)]; exact g3, g4, ⟨w.heap.size, HT.out.below BS, by omega, by omega, by omega⟩, g8, g9⟩

theorem slInt : SliceOf 41 3 1 := ⟨Tryz.underlying41, by obtain ⟨i, hi, h1, h2, h3⟩ := info_parts infoInt; exact ⟨i, _, hi, h1, by decide, h2, by decide, by omega⟩⟩
theorem slJoin : SliceOf 61 92 2 := ⟨Tryz.underlying61, by obtain ⟨i, hi, h1, h2, h3⟩ := info_parts infoJoin; exact ⟨i, _, hi, h1, by decide, h2, by decide, by omega⟩⟩
theorem slFlank : SliceOf 42 98 2 := ⟨Tryz.underlying42, by obtain ⟨i, hi, h1, h2, h3⟩ := info_parts infoFlank; exact ⟨i, _, hi, h1, by decide, h2, by decide, by omega⟩⟩
theorem slPoint : SliceOf 24 57 2 := ⟨Tryz.underlying24, by obtain ⟨i, hi, h1, h2, h3⟩ := info_parts infoPointI; exact ⟨i, _, hi, h1, by decide, h2, by decide, by omega⟩⟩
theorem slSig : SliceOf 25 59 3 := ⟨Tryz.underlying25, by obtain ⟨i, hi, h1, h2, h3⟩ := info_parts infoSigI; exact ⟨i, _, hi, h1, by decide, h2, by decide, by omega⟩⟩
theorem slSec : SliceOf 23 63 3 := ⟨Tryz.underlying23, by obtain ⟨i, hi, h1, h2, h3⟩ := info_parts infoSec; exact ⟨i, _, hi, h1, by decide, h2, by decide, by omega⟩⟩
theorem slRoute : SliceOf 26 44 7 := ⟨Tryz.underlying26, by obtain ⟨i, hi, h1, h2, h3⟩ := info_parts infoRouteI; exact ⟨i, _, hi, h1, by decide, h2, by decide, by omega⟩⟩
theorem infoPointZ : (Tryz.prog.info? 57).map (·.size) = some 2 := by kernel_rfl
theorem infoFlankZ : (Tryz.prog.info? 98).map (·.size) = some 2 := by kernel_rfl
theorem infoSigZ : (Tryz.prog.info? 59).map (·.size) = some 3 := by kernel_rfl
theorem join_read {b : List UInt8} {s s2 s3 : St} {x y : Int} (h : numM b s = (x, s2)) (h2 : numM b s2 = (y, s3)) : joinM b s = ((x, y), s3) := by
 show (((numM b s).1, (numM b (numM b s).2).1), (numM b (numM b s).2).2) = _
 rw [h, h2]
theorem sig_read {b : List UInt8} {s s2 s3 s4 : St} {x y z : Int} (h : numM b s = (x, s2)) (h2 : numM b s2 = (y, s3)) (h3 : numM b s3 = (z, s4)) : sigM b s = ((x, y, z), s4) := by
 show (((numM b s).1, (joinM b (numM b s).2).1), (joinM b (numM b s).2).2) = _
 rw [h, join_read h2 h3]
set_option maxHeartbeats 4000000 in
theorem ppointR_any (pa pw pb : Nat) (v : Value) (b : List UInt8) (s : St) (w : World) (h : Rdr w pa pw pb v b s) :
  Calls Tryz.prog 35 #[(.agg #[nxV pa pw pb, enV pa pw pb])] w fun e w' => RdP (joinM b s) w pa pw pb v b (fun x w' => e = .returned (.agg #[.int .i64 x.1, .int .i64 x.2])) w' := by
 have HR := Lib.hid h
 have hlt := h.lt
 obtain ⟨h0, h1, hqb⟩ := two_boxes w (.cells #[nxV pa pw pb, enV pa pw pb] 75) (.cells #[.int .i64 0, .int .i64 0] 57)
 clear h
 go_enter Tryz.func35, Tryz.ntmps35
 go_upto_region 1 with fail
 have hqs : ((w.alloc (.cells #[nxV pa pw pb, enV pa pw pb] 75)).alloc (.cells #[.int .i64 0, .int .i64 0] 57)).heap.size = w.heap.size + 2 := by simp
 generalize (w.alloc (.cells #[nxV pa pw pb, enV pa pw pb] 75)).alloc (.cells #[.int .i64 0, .int .i64 0] 57) = q at h0 h1 hqb hqs ⊢
 obtain ⟨p0, hp0⟩ : ∃ n, n = w.heap.size := ⟨_, rfl⟩
 obtain ⟨p1, hp1⟩ : ∃ n, n = w.heap.size + 1 := ⟨_, rfl⟩
 have R1 := Lib.hid (HR.out.below hqb)
 have B1 : Hid (BelowX pa pw w.heap.size w q) := Lib.hid (.of hqb)
 have PP : Hid (p0 = w.heap.size ∧ p1 = w.heap.size + 1 ∧ pa < p0 ∧ pw < p0 ∧ pb < p0 ∧ q.heap.size = w.heap.size + 2) := Lib.hid ⟨hp0, hp1, by omega, by omega, by omega, hqs⟩
 rw [← hp0] at h0
 rw [← hp1] at h1
 have X0 := Lib.hid h0
 have X1 := Lib.hid h1
 rw [← hp1, ← hp0]
 clear hp0 hp1 hqs hqb h0 h1 hlt HR
 refine wp_region_held_drew (S := fun W => W.heap[p0]? = some (.cells #[nxV pa pw pb, enV pa pw pb] 75 (0, 0))) (by kernel_rfl) X0.out (fun hHeld => ?_)
 refine tkc 0 hHeld (fun w' hSw => cell2_of hSw) ?_;refine tkc 2 hHeld (fun w' hSw => cell2_of hSw) ?_
 have R_q0 := Lib.hid (R1.out.below (Below.refl q.heap.size q).drew)
 have B_q0 : Hid (BelowX pa pw w.heap.size w q.drew) := Lib.hid B1.out.drew
 have X1_q0 : Hid (q.drew.heap[p1]? = some _) := X1
 have X0_q0 : Hid (q.drew.heap[p0]? = some _) := X0
 have QS : Hid (q.drew.heap.size = w.heap.size + 2) := Lib.hid PP.out.2.2.2.2.2
 generalize q.drew = q0 at R_q0 B_q0 X1_q0 X0_q0 QS hHeld ⊢
 clear R1 B1 X0 X1
 refine tkr 1 (fun K hK => ?_)
 go_simp
 refine (pnumber_any pa pw pb v b s q0 R_q0.out).mono ?_
 rintro e w2 ⟨x2, s2, hx2, rfl, hr2, hb2⟩
 have R_w2 := Lib.hid hr2
 have B_w2 := Lib.hid (B_q0.out.step hb2 (Nat.le_refl _))
 have E2 := Lib.hid hx2
 have T1 : w2.heap[p1]? = some _ := (hb2.block p1 (heap_lt X1_q0.out) (by have := PP.out; omega) (by have := PP.out; omega)).trans X1_q0.out
 have X1_w2 := Lib.hid T1
 have T0 : w2.heap[p0]? = some _ := (hb2.block p0 (heap_lt X0_q0.out) (by have := PP.out; omega) (by have := PP.out; omega)).trans X0_q0.out
 have X0_w2 := Lib.hid T0
 clear hr2 hb2 hx2 T1 T0 R_q0 B_q0 X1_q0 X0_q0
 try go_wp2_with fail
 refine hK.out _ _ ?_ fun hHeld => ?_;exact X0_w2.out;clear hK K;try simp only [zn, Act.put]
 refine tkr 3 (fun K hK => ?_)
 go_simp
 refine (pnumber_any pa pw pb v b s2 w2 R_w2.out).mono ?_
 rintro e w3 ⟨x3, s3, hx3, rfl, hr3, hb3⟩
 have R_w3 := Lib.hid hr3
 have B_w3 := Lib.hid (B_w2.out.step hb3 (Nat.le_refl _))
 have E3 := Lib.hid hx3
 have T1 : w3.heap[p1]? = some _ := (hb3.block p1 (heap_lt X1_w2.out) (by have := PP.out; omega) (by have := PP.out; omega)).trans X1_w2.out
 have X1_w3 := Lib.hid T1
 have T0 : w3.heap[p0]? = some _ := (hb3.block p0 (heap_lt X0_w2.out) (by have := PP.out; omega) (by have := PP.out; omega)).trans X0_w2.out
 have X0_w3 := Lib.hid T0
 clear hr3 hb3 hx3 T1 T0 R_w2 B_w2 X1_w2 X0_w2
 try go_wp2_with fail
 refine hK.out _ _ ?_ fun hHeld => ?_;exact X0_w3.out;clear hK K;try simp only [zn, Act.put]
 refine tk 4 hHeld ?_
 refine tkr 5 (fun K hK => ?_)
 rw [if_pos (by rfl)]
 refine wp_store_rowP 57 (.tmp 2) (.tmp 7) rfl p1 rfl (c' := #[.int .i64 x2, .int .i64 x3]) rfl X1_w3.out infoPointZ rfl (by simp [Value.oneCell']) ?_
 have X2 := Lib.hid (setRow_heap w3 p1 _ #[.int .i64 x2, .int .i64 x3] 57 _ X1_w3.out)
 have R3 := Lib.hid (R_w3.out.setRow p1 #[.int .i64 x2, .int .i64 x3] (by have := PP.out; omega) (by have := PP.out; omega) (by have := PP.out; omega))
 have B3 : Hid (BelowX pa pw w.heap.size w (w3.setRow p1 #[.int .i64 x2, .int .i64 x3])) := Lib.hid (B_w3.out.trans (.of (below_setRow (Below.refl _ _) (by have := PP.out; omega) _)))
 refine hK.out _ _ ?_ fun hHeld => ?_;exact ((setRow_other w3 p1 p0 #[.int .i64 x2, .int .i64 x3] (by have := PP.out; omega)).trans X0_w3.out);clear hK K;try simp only [zn, Act.put]
 refine wpAnyH_done (by kernel_rfl) ?_ _
 go_wp2_with fail
 refine bodyPost_ret (results_cell_2 rfl _ _ p1 rfl X2.out Tryz.underlying57 infoPointZ) rfl ?_
 exact RdP.intro (x2, x3) s3 (join_read E2.out E3.out) rfl R3.out B3.out
set_option maxHeartbeats 4000000 in
theorem pflankR_any (pa pw pb : Nat) (v : Value) (b : List UInt8) (s : St) (w : World) (h : Rdr w pa pw pb v b s) :
  Calls Tryz.prog 77 #[(.agg #[nxV pa pw pb, enV pa pw pb])] w fun e w' => RdP (joinM b s) w pa pw pb v b (fun x w' => e = .returned (.agg #[.int .i64 x.1, .int .i64 x.2])) w' := by
 have HR := Lib.hid h
 have hlt := h.lt
 obtain ⟨h0, h1, hqb⟩ := two_boxes w (.cells #[nxV pa pw pb, enV pa pw pb] 75) (.cells #[.int .i64 0, .int .i64 0] 98)
 clear h
 go_enter Tryz.func77, Tryz.ntmps77
 go_upto_region 1 with fail
 have hqs : ((w.alloc (.cells #[nxV pa pw pb, enV pa pw pb] 75)).alloc (.cells #[.int .i64 0, .int .i64 0] 98)).heap.size = w.heap.size + 2 := by simp
 generalize (w.alloc (.cells #[nxV pa pw pb, enV pa pw pb] 75)).alloc (.cells #[.int .i64 0, .int .i64 0] 98) = q at h0 h1 hqb hqs ⊢
 obtain ⟨p0, hp0⟩ : ∃ n, n = w.heap.size := ⟨_, rfl⟩
 obtain ⟨p1, hp1⟩ : ∃ n, n = w.heap.size + 1 := ⟨_, rfl⟩
 have R1 := Lib.hid (HR.out.below hqb)
 have B1 : Hid (BelowX pa pw w.heap.size w q) := Lib.hid (.of hqb)
 have PP : Hid (p0 = w.heap.size ∧ p1 = w.heap.size + 1 ∧ pa < p0 ∧ pw < p0 ∧ pb < p0 ∧ q.heap.size = w.heap.size + 2) := Lib.hid ⟨hp0, hp1, by omega, by omega, by omega, hqs⟩
 rw [← hp0] at h0
 rw [← hp1] at h1
 have X0 := Lib.hid h0
 have X1 := Lib.hid h1
 rw [← hp1, ← hp0]
 clear hp0 hp1 hqs hqb h0 h1 hlt HR
 refine wp_region_held_drew (S := fun W => W.heap[p0]? = some (.cells #[nxV pa pw pb, enV pa pw pb] 75 (0, 0))) (by kernel_rfl) X0.out (fun hHeld => ?_)
 refine tkc 0 hHeld (fun w' hSw => cell2_of hSw) ?_;refine tkc 2 hHeld (fun w' hSw => cell2_of hSw) ?_
 have R_q0 := Lib.hid (R1.out.below (Below.refl q.heap.size q).drew)
 have B_q0 : Hid (BelowX pa pw w.heap.size w q.drew) := Lib.hid B1.out.drew
 have X1_q0 : Hid (q.drew.heap[p1]? = some _) := X1
 have X0_q0 : Hid (q.drew.heap[p0]? = some _) := X0
 have QS : Hid (q.drew.heap.size = w.heap.size + 2) := Lib.hid PP.out.2.2.2.2.2
 generalize q.drew = q0 at R_q0 B_q0 X1_q0 X0_q0 QS hHeld ⊢
 clear R1 B1 X0 X1
 refine tkr 1 (fun K hK => ?_)
 go_simp
 refine (pnumber_any pa pw pb v b s q0 R_q0.out).mono ?_
 rintro e w2 ⟨x2, s2, hx2, rfl, hr2, hb2⟩
 have R_w2 := Lib.hid hr2
 have B_w2 := Lib.hid (B_q0.out.step hb2 (Nat.le_refl _))
 have E2 := Lib.hid hx2
 have T1 : w2.heap[p1]? = some _ := (hb2.block p1 (heap_lt X1_q0.out) (by have := PP.out; omega) (by have := PP.out; omega)).trans X1_q0.out
 have X1_w2 := Lib.hid T1
 have T0 : w2.heap[p0]? = some _ := (hb2.block p0 (heap_lt X0_q0.out) (by have := PP.out; omega) (by have := PP.out; omega)).trans X0_q0.out
 have X0_w2 := Lib.hid T0
 clear hr2 hb2 hx2 T1 T0 R_q0 B_q0 X1_q0 X0_q0
 try go_wp2_with fail
 refine hK.out _ _ ?_ fun hHeld => ?_;exact X0_w2.out;clear hK K;try simp only [zn, Act.put]
 refine tkr 3 (fun K hK => ?_)
 go_simp
 refine (pnumber_any pa pw pb v b s2 w2 R_w2.out).mono ?_
 rintro e w3 ⟨x3, s3, hx3, rfl, hr3, hb3⟩
 have R_w3 := Lib.hid hr3
 have B_w3 := Lib.hid (B_w2.out.step hb3 (Nat.le_refl _))
 have E3 := Lib.hid hx3
 have T1 : w3.heap[p1]? = some _ := (hb3.block p1 (heap_lt X1_w2.out) (by have := PP.out; omega) (by have := PP.out; omega)).trans X1_w2.out
 have X1_w3 := Lib.hid T1
 have T0 : w3.heap[p0]? = some _ := (hb3.block p0 (heap_lt X0_w2.out) (by have := PP.out; omega) (by have := PP.out; omega)).trans X0_w2.out
 have X0_w3 := Lib.hid T0
 clear hr3 hb3 hx3 T1 T0 R_w2 B_w2 X1_w2 X0_w2
 try go_wp2_with fail
 refine hK.out _ _ ?_ fun hHeld => ?_;exact X0_w3.out;clear hK K;try simp only [zn, Act.put]
 refine tk 4 hHeld ?_
 refine tkr 5 (fun K hK => ?_)
 rw [if_pos (by rfl)]
 refine wp_store_rowP 98 (.tmp 2) (.tmp 7) rfl p1 rfl (c' := #[.int .i64 x2, .int .i64 x3]) rfl X1_w3.out infoFlankZ rfl (by simp [Value.oneCell']) ?_
 have X2 := Lib.hid (setRow_heap w3 p1 _ #[.int .i64 x2, .int .i64 x3] 98 _ X1_w3.out)
 have R3 := Lib.hid (R_w3.out.setRow p1 #[.int .i64 x2, .int .i64 x3] (by have := PP.out; omega) (by have := PP.out; omega) (by have := PP.out; omega))
 have B3 : Hid (BelowX pa pw w.heap.size w (w3.setRow p1 #[.int .i64 x2, .int .i64 x3])) := Lib.hid (B_w3.out.trans (.of (below_setRow (Below.refl _ _) (by have := PP.out; omega) _)))
 refine hK.out _ _ ?_ fun hHeld => ?_;exact ((setRow_other w3 p1 p0 #[.int .i64 x2, .int .i64 x3] (by have := PP.out; omega)).trans X0_w3.out);clear hK K;try simp only [zn, Act.put]
 refine wpAnyH_done (by kernel_rfl) ?_ _
 go_wp2_with fail
 refine bodyPost_ret (results_cell_2 rfl _ _ p1 rfl X2.out Tryz.underlying98 infoFlankZ) rfl ?_
 exact RdP.intro (x2, x3) s3 (join_read E2.out E3.out) rfl R3.out B3.out
set_option maxHeartbeats 4000000 in
theorem psigR_any (pa pw pb : Nat) (v : Value) (b : List UInt8) (s : St) (w : World) (h : Rdr w pa pw pb v b s) :
  Calls Tryz.prog 37 #[(.agg #[nxV pa pw pb, enV pa pw pb])] w fun e w' => RdP (sigM b s) w pa pw pb v b (fun x w' => e = .returned (.agg #[.int .i64 x.1, .int .i64 x.2.1, .int .i64 x.2.2])) w' := by
 have HR := Lib.hid h
 have hlt := h.lt
 obtain ⟨h0, h1, hqb⟩ := two_boxes w (.cells #[nxV pa pw pb, enV pa pw pb] 75) (.cells #[.int .i64 0, .int .i64 0, .int .i64 0] 59)
 clear h
 go_enter Tryz.func37, Tryz.ntmps37
 go_upto_region 1 with fail
 have hqs : ((w.alloc (.cells #[nxV pa pw pb, enV pa pw pb] 75)).alloc (.cells #[.int .i64 0, .int .i64 0, .int .i64 0] 59)).heap.size = w.heap.size + 2 := by simp
 generalize (w.alloc (.cells #[nxV pa pw pb, enV pa pw pb] 75)).alloc (.cells #[.int .i64 0, .int .i64 0, .int .i64 0] 59) = q at h0 h1 hqb hqs ⊢
 obtain ⟨p0, hp0⟩ : ∃ n, n = w.heap.size := ⟨_, rfl⟩
 obtain ⟨p1, hp1⟩ : ∃ n, n = w.heap.size + 1 := ⟨_, rfl⟩
 have R1 := Lib.hid (HR.out.below hqb)
 have B1 : Hid (BelowX pa pw w.heap.size w q) := Lib.hid (.of hqb)
 have PP : Hid (p0 = w.heap.size ∧ p1 = w.heap.size + 1 ∧ pa < p0 ∧ pw < p0 ∧ pb < p0 ∧ q.heap.size = w.heap.size + 2) := Lib.hid ⟨hp0, hp1, by omega, by omega, by omega, hqs⟩
 rw [← hp0] at h0
 rw [← hp1] at h1
 have X0 := Lib.hid h0
 have X1 := Lib.hid h1
 rw [← hp1, ← hp0]
 clear hp0 hp1 hqs hqb h0 h1 hlt HR
 refine wp_region_held_drew (S := fun W => W.heap[p0]? = some (.cells #[nxV pa pw pb, enV pa pw pb] 75 (0, 0))) (by kernel_rfl) X0.out (fun hHeld => ?_)
 refine tkc 0 hHeld (fun w' hSw => cell2_of hSw) ?_;refine tkc 2 hHeld (fun w' hSw => cell2_of hSw) ?_;refine tkc 4 hHeld (fun w' hSw => cell2_of hSw) ?_
 have R_q0 := Lib.hid (R1.out.below (Below.refl q.heap.size q).drew)
 have B_q0 : Hid (BelowX pa pw w.heap.size w q.drew) := Lib.hid B1.out.drew
 have X1_q0 : Hid (q.drew.heap[p1]? = some _) := X1
 have X0_q0 : Hid (q.drew.heap[p0]? = some _) := X0
 have QS : Hid (q.drew.heap.size = w.heap.size + 2) := Lib.hid PP.out.2.2.2.2.2
 generalize q.drew = q0 at R_q0 B_q0 X1_q0 X0_q0 QS hHeld ⊢
 clear R1 B1 X0 X1
 refine tkr 1 (fun K hK => ?_)
 go_simp
 refine (pnumber_any pa pw pb v b s q0 R_q0.out).mono ?_
 rintro e w2 ⟨x2, s2, hx2, rfl, hr2, hb2⟩
 have R_w2 := Lib.hid hr2
 have B_w2 := Lib.hid (B_q0.out.step hb2 (Nat.le_refl _))
 have E2 := Lib.hid hx2
 have T1 : w2.heap[p1]? = some _ := (hb2.block p1 (heap_lt X1_q0.out) (by have := PP.out; omega) (by have := PP.out; omega)).trans X1_q0.out
 have X1_w2 := Lib.hid T1
 have T0 : w2.heap[p0]? = some _ := (hb2.block p0 (heap_lt X0_q0.out) (by have := PP.out; omega) (by have := PP.out; omega)).trans X0_q0.out
 have X0_w2 := Lib.hid T0
 clear hr2 hb2 hx2 T1 T0 R_q0 B_q0 X1_q0 X0_q0
 try go_wp2_with fail
 refine hK.out _ _ ?_ fun hHeld => ?_;exact X0_w2.out;clear hK K;try simp only [zn, Act.put]
 refine tkr 3 (fun K hK => ?_)
 go_simp
 refine (pnumber_any pa pw pb v b s2 w2 R_w2.out).mono ?_
 rintro e w3 ⟨x3, s3, hx3, rfl, hr3, hb3⟩
 have R_w3 := Lib.hid hr3
 have B_w3 := Lib.hid (B_w2.out.step hb3 (Nat.le_refl _))
 have E3 := Lib.hid hx3
 have T1 : w3.heap[p1]? = some _ := (hb3.block p1 (heap_lt X1_w2.out) (by have := PP.out; omega) (by have := PP.out; omega)).trans X1_w2.out
 have X1_w3 := Lib.hid T1
 have T0 : w3.heap[p0]? = some _ := (hb3.block p0 (heap_lt X0_w2.out) (by have := PP.out; omega) (by have := PP.out; omega)).trans X0_w2.out
 have X0_w3 := Lib.hid T0
 clear hr3 hb3 hx3 T1 T0 R_w2 B_w2 X1_w2 X0_w2
 try go_wp2_with fail
 refine hK.out _ _ ?_ fun hHeld => ?_;exact X0_w3.out;clear hK K;try simp only [zn, Act.put]
 refine tkr 5 (fun K hK => ?_)
 go_simp
 refine (pnumber_any pa pw pb v b s3 w3 R_w3.out).mono ?_
 rintro e w4 ⟨x4, s4, hx4, rfl, hr4, hb4⟩
 have R_w4 := Lib.hid hr4
 have B_w4 := Lib.hid (B_w3.out.step hb4 (Nat.le_refl _))
 have E4 := Lib.hid hx4
 have T1 : w4.heap[p1]? = some _ := (hb4.block p1 (heap_lt X1_w3.out) (by have := PP.out; omega) (by have := PP.out; omega)).trans X1_w3.out
 have X1_w4 := Lib.hid T1
 have T0 : w4.heap[p0]? = some _ := (hb4.block p0 (heap_lt X0_w3.out) (by have := PP.out; omega) (by have := PP.out; omega)).trans X0_w3.out
 have X0_w4 := Lib.hid T0
 clear hr4 hb4 hx4 T1 T0 R_w3 B_w3 X1_w3 X0_w3
 try go_wp2_with fail
 refine hK.out _ _ ?_ fun hHeld => ?_;exact X0_w4.out;clear hK K;try simp only [zn, Act.put]
 refine tk 6 hHeld ?_
 refine tkr 7 (fun K hK => ?_)
 rw [if_pos (by rfl)]
 refine wp_store_rowP 59 (.tmp 2) (.tmp 9) rfl p1 rfl (c' := #[.int .i64 x2, .int .i64 x3, .int .i64 x4]) rfl X1_w4.out infoSigZ rfl (by simp [Value.oneCell']) ?_
 have X2 := Lib.hid (setRow_heap w4 p1 _ #[.int .i64 x2, .int .i64 x3, .int .i64 x4] 59 _ X1_w4.out)
 have R3 := Lib.hid (R_w4.out.setRow p1 #[.int .i64 x2, .int .i64 x3, .int .i64 x4] (by have := PP.out; omega) (by have := PP.out; omega) (by have := PP.out; omega))
 have B3 : Hid (BelowX pa pw w.heap.size w (w4.setRow p1 #[.int .i64 x2, .int .i64 x3, .int .i64 x4])) := Lib.hid (B_w4.out.trans (.of (below_setRow (Below.refl _ _) (by have := PP.out; omega) _)))
 refine hK.out _ _ ?_ fun hHeld => ?_;exact ((setRow_other w4 p1 p0 #[.int .i64 x2, .int .i64 x3, .int .i64 x4] (by have := PP.out; omega)).trans X0_w4.out);clear hK K;try simp only [zn, Act.put]
 refine wpAnyH_done (by kernel_rfl) ?_ _
 go_wp2_with fail
 refine bodyPost_ret (results_cell_3 rfl _ _ p1 rfl X2.out Tryz.underlying59 infoSigZ) rfl ?_
 exact RdP.intro (x2, x3, x4) s4 (sig_read E2.out E3.out E4.out) rfl R3.out B3.out
end Go.Proofs.YteloiajocjahmaaGreatDoor
