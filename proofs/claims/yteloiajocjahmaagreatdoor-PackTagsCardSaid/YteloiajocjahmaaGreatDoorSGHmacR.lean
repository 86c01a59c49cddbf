/-
 The document's own answer: a key's block, the inner hash, the tag.
 Conditions: at most 4,000 bytes.
-/
import Derived.Test.YteloiajocjahmaaGreatDoorSHmacNested
import Derived.Test.YteloiajocjahmaaGreatDoorSGShaS
import Derived.Test.YteloiajocjahmaaGreatDoorSGHmac
set_option linter.unusedVariables false
set_option linter.unusedSimpArgs false
set_option maxRecDepth 100000
namespace Go.Proofs.YteloiajocjahmaaGreatDoor
open Go.RowKit

set_option maxHeartbeats 1000000 in
theorem masked_ref (t : UInt8) (T : Int) (hTt : T = (t.toNat : Int)) (v : Value) (key : List UInt8) (hk : key.length ≤ 64) (w : World) (hx : Txt w w.heap.size v key) :
  Calls Tryz.prog 42 #[v, .int .u8 T] w fun e w' => ∃ r, e = .returned r ∧ w'.ownsRow w.heap.size 5 1 r 64 ((turnK (padK key) t).map u8) ∧ Below w.heap.size w w' := by
 subst hTt
 obtain ⟨A, cap, rfl, -, -, -, h3⟩ := hx
 have H3 := Lib.hid h3
 clear h3
 obtain ⟨i0, hi, hz0, hz1, hz2⟩ := info_parts infoByte
 have I0 := Lib.hid hi
 have I1 := Lib.hid hz0
 have I2 := Lib.hid hz1
 have I3 := Lib.hid hz2
 obtain ⟨K, hK⟩ : ∃ K, K = padK key := ⟨_, rfl⟩
 have KL : Hid (K.length = 64) := Lib.hid (by rw [hK]; exact padK_length hk)
 have KA : Hid (∀ i, i < 64 → K[i]? = some (key.getD i 0)) := Lib.hid (fun i h => by rw [hK]; exact padK_at h)
 rw [← hK]
 clear hK hi hz0 hz1 hz2
 go_enter Tryz.func42, Tryz.ntmps42
 go_wp2_with fail
 go_loopw [5, 6] (fun s5 s6 wr => ∃ i : Nat, i ≤ 64 ∧ s6 = .int .i64 i ∧ wr.ownsRow w.heap.size 5 1 s5 i ((turnK (K.take i) t).map u8) ∧ Below w.heap.size w wr) (fun _ s6 _ => 64 - (intOf s6).toNat)
 case atStart => exact ⟨0, by omega, rfl, World.ownsRow_nil _ _ _ _, Below.refl _ _⟩
 case round =>
  obtain ⟨i, hi, rfl, ho, hb⟩ := hrel
  obtain ⟨A3, c3, rfl⟩ := own_slice_ ho
  have HO := Lib.hid ho
  have HB := Lib.hid hb
  clear ho hb
  by_cases hlt : i < 64
  ·have hlt' : (i : Int) < 64 := by omega
   have hx := KA.out i hlt
   have HNX := Lib.hid (turnK_take_succ (t := t) hx)
   clear hx
   by_cases hik : i < key.length
   ·have hik' : (i : Int) < key.length := by omega
    obtain ⟨b, off, rfl, hlt2, hcell⟩ := H3.out (by omega)
    have hki : wr.cell? ⟨b, off + i, none⟩ = some (.int .u8 ((key.getD i 0).toNat : Int)) := by
     rw [show key.getD i 0 = key[i] by rw [List.getD_eq_getElem?_getD, List.getElem?_eq_getElem hik]; rfl]
     exact (HB.out.cell (p := ⟨b, off + i, none⟩) hlt2).trans (hcell i hik)
    clear hcell
    have hxor := xor_int (key.getD i 0) t
    generalize key.getD i 0 = x at *
    generalize x ^^^ t = y at *
    go_wp2_with (refine wpList_append_cells (o := ⟨some 25, _, _, _, _, _⟩) rfl (.tmp 20) (.tmp 24) _ rfl Tryz.underlying22 I0.out I1.out rfl I2.out I3.out (by decide) rfl (owns_below HO.out (below_new _ _)) (news := [.int .u8 ((y.toNat : Nat) : Int)]) rfl (fun j u hj => by rw [World.cell?_alloc_new]; simpa using hj) (by simp [Value.oneCell']) (by simp; omega) (Nat.le_trans HB.out.size (by simp)) ?_; intro v4 w4 hown4 hgrow4)
    have b4 := ((HB.out.alloc HB.out.size (.cells #[.int .u8 ((y.toNat : Nat) : Int)] 5)).grown hgrow4 (Nat.le_trans HB.out.size (by simp)) (own_ge HO.out))
    have O4 := Lib.hid (own_snoc hown4 rfl HNX.out)
    have B4 := Lib.hid b4
    clear hown4 hgrow4 b4
    go_roundw
    case measure => simp [intOf]; omega
    case rel => exact ⟨i + 1, by omega, by go_num, O4.out, B4.out⟩
   ·have hik' : ¬ (i : Int) < key.length := by omega
    have hxor : bits .xor .u8 0 (t.toNat : Int) = (((key.getD i 0 ^^^ t).toNat : Nat) : Int) := by
     rw [← xor_int, List.getD_eq_getElem?_getD, List.getElem?_eq_none (by omega)]; rfl
    generalize key.getD i 0 = x at *
    generalize x ^^^ t = y at *
    go_wp2_with (refine wpList_append_cells (o := ⟨some 25, _, _, _, _, _⟩) rfl (.tmp 20) (.tmp 24) _ rfl Tryz.underlying22 I0.out I1.out rfl I2.out I3.out (by decide) rfl (owns_below HO.out (below_new _ _)) (news := [.int .u8 ((y.toNat : Nat) : Int)]) rfl (fun j u hj => by rw [World.cell?_alloc_new]; simpa using hj) (by simp [Value.oneCell']) (by simp; omega) (Nat.le_trans HB.out.size (by simp)) ?_; intro v4 w4 hown4 hgrow4)
    have b4 := ((HB.out.alloc HB.out.size (.cells #[.int .u8 ((y.toNat : Nat) : Int)] 5)).grown hgrow4 (Nat.le_trans HB.out.size (by simp)) (own_ge HO.out))
    have O4 := Lib.hid (own_snoc hown4 rfl HNX.out)
    have B4 := Lib.hid b4
    clear hown4 hgrow4 b4
    go_roundw
    case measure => simp [intOf]; omega
    case rel => exact ⟨i + 1, by omega, by go_num, O4.out, B4.out⟩
  ·obtain rfl : i = 64 := by omega
   have hlt' : ¬ (64 : Int) < 64 := by omega
   have hO := HO.out
   rw [List.take_of_length_le (by rw [KL.out]; omega)] at hO
   have HO1 := Lib.hid hO
   clear hO HO
   go_wp2_with fail
   go_ret
   exact ⟨_, rfl, HO1.out, HB.out⟩

set_option maxHeartbeats 1000000 in
theorem inner_ref (v x : Value) (key b : List UInt8) (hk : key.length ≤ 64) (hb : b.length ≤ 4000) (w : World) (h0 : Txt w w.heap.size v key) (h1 : Txt w w.heap.size x b) :
  Calls Tryz.prog 40 #[v, x] w fun e w' => e = .returned (.agg (rowB (innerL key b))) ∧ Below w.heap.size w w' := by
 have HX0 := Lib.hid h0
 have HX1 := Lib.hid h1
 have hz32 := zero32.1
 obtain ⟨A0, c0, rfl, -, -, -, -⟩ := h0
 obtain ⟨A1, c1, rfl, -, -, -, -⟩ := h1
 obtain ⟨i0, hi, hz0, hz1, hz2⟩ := info_parts infoByte
 have I0 := Lib.hid hi
 have I1 := Lib.hid hz0
 have I2 := Lib.hid hz1
 have I3 := Lib.hid hz2
 have KL : Hid ((turnK (padK key) 54).length = 64) := Lib.hid (by rw [turnK_length]; exact padK_length hk)
 have IL := Lib.hid (innerL_length key b)
 clear hi hz0 hz1 hz2
 go_enter Tryz.func40, Tryz.ntmps40
 go_wp2_with fail
 have hu0 := heap_alloc_self w (.cells (Array.replicate 32 (.int .u8 0)) 47)
 have hub := below_new w (.cells (Array.replicate 32 (.int .u8 0)) 47)
 generalize w.alloc (.cells (Array.replicate 32 (.int .u8 0)) 47) = u at hu0 hub ⊢
 have U0 := Lib.hid hu0
 have UB := Lib.hid hub
 clear hu0 hub
 refine (masked_ref 54 _ rfl _ key hk _ ((HX0.out.below UB.out).more UB.out.size)).mono ?_
 rintro e w2 ⟨r, rfl, ho2, b2⟩
 obtain ⟨A2, c2, rfl⟩ := own_slice_ ho2
 have O2 := Lib.hid ho2
 have D2 := Lib.hid b2
 clear ho2 b2
 go_wp2_with (refine wpList_append_txt (o := ⟨some 8, _, _, _, _, _⟩) rfl (.tmp 6) (.tmp 7) _ rfl Tryz.underlying22 I0.out I1.out I2.out I3.out rfl O2.out rfl (HX1.out.below (UB.out.trans (D2.out.mono UB.out.size))) (by omega) D2.out.size ?_; intro v5 w5 hown5 hgrow5; have D5 := Lib.hid (D2.out.grown hgrow5 D2.out.size (own_ge O2.out)); have O5 := Lib.hid hown5; clear hown5 hgrow5 D2 O2)
 have tx5 : Txt w5 w5.heap.size v5 (turnK (padK key) 54 ++ b) := Txt.own (by rw [List.length_append, KL.out]; unfold maxLen; omega) (base := u.heap.size) (e := 5) (by rw [List.length_append, KL.out, List.map_append]; exact O5.out)
 refine (sum_ref v5 _ (by rw [List.length_append, KL.out]; omega) _ tx5).mono ?_
 rintro e w6 ⟨rfl, b6⟩
 have hI : sumL (turnK (padK key) 54 ++ b) = innerL key b := rfl
 rw [hI]
 have D6 := Lib.hid (D5.out.trans (b6.mono D5.out.size))
 have B6 := Lib.hid (UB.out.trans (D6.out.mono UB.out.size))
 have U6 := Lib.hid ((D6.out.block _ (heap_lt U0.out)).trans U0.out)
 clear b6 hI tx5 O5 D5 D6 UB U0
 go_wp2_with (refine wpList_store_row rfl 47 _ _ rfl w.heap.size rfl rfl U6.out (by rw [rowB_size, IL.out]; exact zero32.2) (by rw [rowB_size, IL.out]; simp) (rowB_one _) ?_)
 refine bodyPost_ret (v := .agg (rowB (innerL key b))) ?_ rfl ⟨rfl, below_setRow B6.out (Nat.le_refl _) _⟩
 exact results_cell_row rfl _ _ w.heap.size _ _ (0, 0) _ rfl (setRow_heap _ _ _ _ _ _ U6.out) Tryz.underlying47 rfl (by rw [rowB_size, IL.out]; exact zero32.2)


/-- A whole array into a block that holds one, as one operation. -/
theorem wp_store_whole {P : Program} {op : Oper} {a : Act} {w : World} {K : Act → World → Prop} {Q : Exit → Act → World → Prop} (ty : TypeId) (x y : Operand) (ho : op.op = .store ty x y)
  (b : Nat) (hx : a.eval x = .pointer (some ⟨b, 0, none⟩)) {c c' : Array Value} (hy : a.eval y = .agg c') {t : TypeId} (hb : w.heap[b]? = some (.cells c t (0, 0)))
  (hi : (P.info? ty).map (·.size) = some c'.size) (hs : c.size = c'.size) (h1 : c'.all (·.oneCell') = true)
  (h : K (a.put op.dst undef) (w.setRow b c')) : op.wp P a w K Q := by
 unfold Oper.wp execOp
 simp only [ho, hx, hy, Instr.storeAt, Instr.sureAddr, Sem.run_bind, Sem.run_pure, Result.andThen_ok]
 rw [run_storeVar_row w b t ty c c' hb hi hs h1]
 exact h

set_option maxRecDepth 100000 in
set_option maxHeartbeats 2000000 in
theorem of_ref (v x : Value) (key b : List UInt8) (hk : key.length ≤ 64) (hb : b.length ≤ 4000) (w : World) (h0 : Txt w w.heap.size v key) (h1 : Txt w w.heap.size x b) :
  Calls Tryz.prog 17 #[v, x] w fun e w' => e = .returned (.agg (rowB (tagL key b))) ∧ Below w.heap.size w w' := by
 have HX0 := Lib.hid h0
 have HX1 := Lib.hid h1
 have hz32 := zero32.1
 obtain ⟨A0, c0, rfl, -, -, -, -⟩ := h0
 obtain ⟨A1, c1, rfl, -, -, -, -⟩ := h1
 obtain ⟨i0, hi, hz0, hz1, hz2⟩ := info_parts infoByte
 have I0 := Lib.hid hi
 have I1 := Lib.hid hz0
 have I2 := Lib.hid hz1
 have I3 := Lib.hid hz2
 have KL : Hid ((turnK (padK key) 92).length = 64) := Lib.hid (by rw [turnK_length]; exact padK_length hk)
 have IL := Lib.hid (innerL_length key b)
 have TL := Lib.hid (tagL_length key b)
 clear hi hz0 hz1 hz2
 go_enter Tryz.func17, Tryz.ntmps17
 go_wp2_with fail
 have hu0 := heap_alloc_self w (.cells (Array.replicate 32 (.int .u8 0)) 47)
 have hub := below_new w (.cells (Array.replicate 32 (.int .u8 0)) 47)
 generalize w.alloc (.cells (Array.replicate 32 (.int .u8 0)) 47) = u at hu0 hub ⊢
 have U0 := Lib.hid hu0
 have UB := Lib.hid hub
 clear hu0 hub
 refine (inner_ref _ _ key b hk hb _ ((HX0.out.below UB.out).more UB.out.size) ((HX1.out.below UB.out).more UB.out.size)).mono ?_
 rintro e w1 ⟨rfl, b1⟩
 have B1 := Lib.hid (UB.out.trans (b1.mono UB.out.size))
 have U1 := Lib.hid ((b1.block _ (heap_lt U0.out)).trans U0.out)
 clear b1 UB U0
 go_wp2_with (refine wpList_store_new (op := ⟨none, _, _, _, _, _⟩) rfl _ _ rfl rfl rfl IL.out ?_; intro q hx1 hb1; have QB := Lib.hid (B1.out.trans (hb1.out.mono B1.out.size)); have Q0 := Lib.hid ((hb1.out.block _ (heap_lt U1.out)).trans U1.out); have QI := hx1; clear hb1 B1 U1)
 have R0 : Hid (Below q.heap.size q q.drew) := Lib.hid (Below.refl _ q).drew
 have D0 : Hid (q.drew.heap[w.heap.size]? = some (.cells (Array.replicate 32 (.int .u8 0)) 47 (0, 0))) := Lib.hid Q0.out
 refine wp_region_held_drew (S := fun _ => True) (by kernel_rfl) trivial (fun hHeld => ?_)
 refine tk 0 hHeld ?_;refine tk 2 hHeld ?_
 refine tkr 1 (fun K hK => ?_)
 go_simp
 refine (masked_ref 92 _ rfl _ key hk _ ((HX0.out.below (QB.out.trans (R0.out.mono QB.out.size))).more (QB.out.trans (R0.out.mono QB.out.size)).size)).mono ?_
 rintro e wA ⟨r, rfl, hoA, bA⟩
 obtain ⟨A2, c2, rfl⟩ := own_slice_ hoA
 have OA := Lib.hid hoA
 have R1 := Lib.hid (R0.out.trans (bA.mono R0.out.size))
 clear hoA bA
 try go_wp2_with fail
 refine hK.out _ _ ?_ fun hHeld => ?_;exact trivial;clear hK K;try simp only [zn, Act.put]
 have txA : Txt wA wA.heap.size (.slice (some ⟨w1.heap.size, 0, none⟩) 32 32) (innerL key b) := by
  have := txt_of_block ((R1.out.block _ (heap_lt QI.out)).trans QI.out) (by rw [IL.out]; unfold maxLen; omega)
  rwa [IL.out] at this
 have TXA := Lib.hid txA
 clear txA
 refine tkr 3 (fun K hK => ?_)
 rw [if_pos (by rfl)]
 refine wp_append_txt (.tmp 10) (.tmp 11) _ rfl Tryz.underlying22 I0.out I1.out I2.out I3.out rfl OA.out rfl TXA.out (by rw [IL.out]; omega) R1.out.size ?_
 intro vB wB hownB hgrowB
 have OB := Lib.hid hownB
 have R2 := Lib.hid (R1.out.grown hgrowB R1.out.size (own_ge OA.out))
 clear hownB hgrowB OA TXA
 try go_wp2_with fail
 refine hK.out _ _ ?_ fun hHeld => ?_;exact trivial;clear hK K;try simp only [zn, Act.put]
 have tx8 : Txt wB wB.heap.size vB (turnK (padK key) 92 ++ innerL key b) := Txt.own (by rw [List.length_append, KL.out, IL.out]; unfold maxLen; omega) (base := q.drew.heap.size) (e := 5) (by rw [List.length_append, KL.out, List.map_append]; exact OB.out)
 have TX8 := Lib.hid tx8
 clear tx8
 refine tkr 4 (fun K hK => ?_)
 go_simp
 refine (sum_ref vB _ (by rw [List.length_append, KL.out, IL.out]; omega) _ TX8.out).mono ?_
 rintro e wC ⟨rfl, bC⟩
 have hTG : sumL (turnK (padK key) 92 ++ innerL key b) = tagL key b := rfl
 rw [hTG]
 have R3 := Lib.hid (R2.out.trans (bC.mono R2.out.size))
 clear bC hTG
 try go_wp2_with fail
 refine hK.out _ _ ?_ fun hHeld => ?_;exact trivial;clear hK K;try simp only [zn, Act.put]
 have C0 := Lib.hid ((R3.out.block _ (heap_lt Q0.out)).trans Q0.out)
 refine tkr 5 (fun K hK => ?_)
 rw [if_pos (by rfl)]
 refine wp_store_whole 47 _ _ rfl w.heap.size rfl rfl C0.out (by rw [rowB_size, TL.out]; exact zero32.2) (by rw [rowB_size, TL.out]; simp) (rowB_one _) ?_
 refine hK.out _ _ ?_ fun hHeld => ?_;exact trivial;clear hK K;try simp only [zn, Act.put]
 refine wpAnyH_done (by kernel_rfl) ?_ _
 have hall := Lib.hid (below_setRow (QB.out.trans (R3.out.mono QB.out.size)) (Nat.le_refl _) (rowB (tagL key b)))
 have hcell := Lib.hid (setRow_heap _ _ _ (rowB (tagL key b)) _ _ C0.out)
 clear R0 R1 R2 R3 D0 Q0 QB QI C0 OB TX8
 go_wp2_with fail
 refine bodyPost_ret (v := .agg (rowB (tagL key b))) ?_ rfl ⟨rfl, hall.out⟩
 exact results_cell_row rfl _ _ w.heap.size _ _ (0, 0) _ rfl hcell.out Tryz.underlying47 rfl (by rw [rowB_size, TL.out]; exact zero32.2)

end Go.Proofs.YteloiajocjahmaaGreatDoor
