/-
  The record that is whole in a slot, as the program finds it.
  Conditions: thirty-two sectors of 128 bytes each; the slot's first sector is 0 or 16.
-/
import Derived.Test.YtdjoflhcagfmiaaSlotTold
import Derived.Test.YtdjoflhcagfmiaaSlotSecs
import Derived.StillTailTactics
set_option linter.unusedVariables false
set_option linter.unusedSimpArgs false
set_option maxRecDepth 100000
namespace Go.Proofs.Ytdjoflhcagfmiaa
open Go.RowKit

theorem sslot_any (g : Nat) (w : World) : Calls Try.prog 14 #[.int .u32 g] w fun e w' => e = .returned (.int .i64 (slotN g : Nat)) ∧ w = w' := by
  have h : ((g : Int) % 2 * 16) = ((slotN g : Nat) : Int) := by rw [slotN]; omega
  have h2 : (g : Int) % 2 < 2 := by omega
  have h3 : (0 : Int) ≤ (g : Int) % 2 := by omega
  have H := Lib.hid h
  clear h

  go_enter Try.func14, Try.ntmps14
  go_wp2_with fail
  rw [H.out]
  go_ret
  exact ⟨rfl, rfl⟩

theorem SecsIn.mid {W : World} {B n : Nat} {A : Option Addr} {cap : Nat} {V : List Bs} (h : SecsIn W B (.slice A n cap) V) {k m : Nat} (hm : 0 < m) (hk : k + m ≤ V.length) :
    ∃ b off, A = some ⟨b, off, none⟩ ∧ V.length ≤ cap ∧ cap ≤ maxLen ∧ SecsIn W B (.slice (some ⟨b, off + k, none⟩) m (cap - k)) ((V.drop k).take m) := by
  obtain ⟨A', cap', e, h1, h2, hn, h3⟩ := h
  cases e
  obtain ⟨b, off, rfl, hb, hc⟩ := h3 (by omega)
  have hl : ((V.drop k).take m).length = m := by rw [List.length_take, List.length_drop]; omega
  refine ⟨b, off, rfl, h1, h2, _, _, by rw [hl], by rw [hl]; omega, by omega, fun e => (by cases e), fun _ => ⟨b, off + k, rfl, hb, fun j hj => ?_⟩⟩
  rw [hl] at hj
  obtain ⟨u, hu, ht⟩ := hc (k + j) (by omega)
  refine ⟨u, by rw [Nat.add_assoc]; exact hu, ?_⟩
  have : ((V.drop k).take m)[j]'(by rw [hl]; exact hj) = V[k + j]'(by omega) := by simp
  rw [this]
  exact ht
/-- One array of a row. -/
theorem flatR_at : ∀ (ls : List Bs) (i j : Nat) (hi : i < ls.length), (∀ s ∈ ls, s.length = 128) → j < 128 → (flatR ls)[i * 128 + j]? = ((ls[i]).map u8)[j]?
  | l :: ls, 0, j, hi, h, hj => by
    have hl : (l.map u8).length = 128 := by rw [List.length_map]; exact h l (by simp)
    show ((l.map u8) ++ flatR ls)[0 * 128 + j]? = _
    rw [List.getElem?_append_left (by omega), Nat.zero_mul, Nat.zero_add]; rfl
  | l :: ls, i + 1, j, hi, h, hj => by
    have hl : (l.map u8).length = 128 := by rw [List.length_map]; exact h l (by simp)
    show ((l.map u8) ++ flatR ls)[(i + 1) * 128 + j]? = _
    rw [List.getElem?_append_right (by omega), hl, show (i + 1) * 128 + j - 128 = i * 128 + j from by omega]
    exact flatR_at ls i j (by simpa using hi) (fun s hs => h s (by simp [hs])) hj
theorem ArrsAt.at {W : World} {lo n c : Nat} {A : Option Addr} {ls : List Bs} (h : ArrsAt W lo (.slice A n c) ls) (h128 : ∀ s ∈ ls, s.length = 128) {i : Nat} (hi : i < ls.length) :
    ∃ b, A = some ⟨b, 0, none⟩ ∧ lo ≤ b ∧ ∀ j v, ((ls[i]).map u8)[j]? = some v → W.cell? ⟨b, i * 128 + j, none⟩ = some v := by
  have h' : W.ownsRow lo 77 128 (.slice A n c) ls.length (flatR ls) := h
  rcases h'.2 with ⟨h1, h2⟩ | ⟨b, cap, cur, e, hlo, hgb, hcap, hmx, hsz, htk⟩
  · omega
  cases e
  refine ⟨b, rfl, hlo, fun j v hj => ?_⟩
  have hj1 : j < 128 := by
    obtain ⟨hlt, _⟩ := List.getElem?_eq_some_iff.1 hj
    rw [List.length_map, h128 _ (List.getElem_mem hi)] at hlt
    exact hlt
  rw [h'.cellAt (i * 128 + j) (by have : i * 128 + 128 ≤ ls.length * 128 := by omega
                                  omega), flatR_at ls i j hi h128 hj1]
  exact hj

theorem wpList_load_arr {ops : Array Oper} {rest : List Oper} {op : Oper} {a : Act} {w : World} {Q : Exit → Act → World → Prop} (hgd : op.guard = none) (x : Operand) (ho : op.op = .load 77 x)
    (b o : Nat) (hx : a.eval x = .pointer (some ⟨b, o, none⟩)) {l : Bs} (hl : l.length = 128) (hc : ∀ j v, (l.map u8)[j]? = some v → w.cell? ⟨b, o + j, none⟩ = some v)
    (h : wpList Try.prog ops Q rest (a.put op.dst (.agg (rowB l))) w) : wpList Try.prog ops Q (op :: rest) a w :=
  wpList_load_mid hgd 77 x ho b o hx (l.map u8) (.array 128 5) hc Try.underlying77 rfl (by rw [List.length_map, hl]; exact zero128.2) h
theorem taken_ne {g : Nat} {t : Bs} {S : List Bs} {i : Nat} (hi : i < cntR t) (hS : i < S.length) (h : secR g (bodyR g t) i ≠ S[i]) : secsR g t ≠ S.take (cntR t) := fun e => by
  have h1 := congrArg (fun l : List Bs => l[i]?) e
  simp only [secsR_at hi, List.getElem?_take_of_lt hi, List.getElem?_eq_getElem hS] at h1
  exact h (Option.some.inj h1)
theorem taken_eq {g : Nat} {t : Bs} {S : List Bs} (hS : cntR t ≤ S.length) (h : ∀ i, i < cntR t → (secsR g t)[i]? = S[i]?) : secsR g t = S.take (cntR t) := by
  apply List.ext_getElem?
  intro i
  by_cases hi : i < cntR t
  · rw [h i hi, List.getElem?_take_of_lt hi]
  · rw [List.getElem?_eq_none (by rw [secsR_length]; omega), List.getElem?_eq_none (by rw [List.length_take]; omega)]

set_option maxHeartbeats 4000000 in
theorem swhole_any (v : Value) (V : List Bs) (k : Nat) (hk : k = 0 ∨ k = 16) (w : World) (h : SecsIn w w.heap.size v V) (hl : V.length = 32) (h128 : ∀ s ∈ V, s.length = 128) :
    Calls Try.prog 32 #[v, .int .i64 (k : Int)] w fun e w' => ToldSaid w' w.heap.size (wholeR ((V.drop k).take 16) k) e ∧ Below w.heap.size w w' := by
  have H := Lib.hid h
  obtain ⟨A, cap, rfl, -, -, -, -⟩ := h
  have HL := Lib.hid hl
  rw [hl] at H ⊢
  obtain ⟨b, off, rfl, hcap, hmx, hsub⟩ := H.out.mid (k := k) (m := 16) (by omega) (by rw [hl]; omega)
  rw [hl] at hcap
  obtain ⟨S, hS⟩ : ∃ S, S = (V.drop k).take 16 := ⟨_, rfl⟩
  rw [← hS] at hsub ⊢
  have hSl : S.length = 16 := by rw [hS, List.length_take, List.length_drop]; omega
  have hS128 : ∀ s ∈ S, s.length = 128 := fun s hs => h128 s (by rw [hS] at hs; exact List.mem_of_mem_drop (List.mem_of_mem_take hs))
  have SU := Lib.hid hsub
  have SL := Lib.hid hSl
  have S128 := Lib.hid hS128
  have hk1 : (k : Int) + 16 ≤ cap := by omega
  have hk2 : (0 : Int) ≤ k := by omega
  have hk3 : k ≤ 16 := by omega
  have hk4 : ¬ cap = k := by omega
  have HK := Lib.hid hk
  have HSE := Lib.hid hS
  clear H hl h128 hS hsub hSl hS128 hk
  go_enter Try.func32, Try.ntmps32
  go_wp2_with fail
  simp only [Nat.add_sub_cancel_left]
  have hq1 := heap_alloc_self w (.cells #[.int .u32 0, .slice none 0 0] 36)
  have hqb := below_new w (.cells #[.int .u32 0, .slice none 0 0] 36)
  generalize w.alloc (.cells #[.int .u32 0, .slice none 0 0] 36) = q at hq1 hqb ⊢
  refine (stold_any _ S q ((SU.out.below hqb).more hqb.size) SL.out S128.out).mono ?_
  rintro e w1 ⟨hsaid, b1⟩
  have C1 := Lib.hid ((b1.block _ (heap_lt hq1)).trans hq1)
  have B1 := Lib.hid (hqb.trans (b1.mono hqb.size))
  have LQ : Hid (w.heap.size < q.heap.size ∧ q.heap.size ≤ w1.heap.size) := Lib.hid ⟨heap_lt hq1, b1.size⟩
  clear hq1 hqb b1
  have NONE : Hid (∀ (u : World) (c0 c1 : Value), u.heap[w.heap.size]? = some (.cells #[c0, c1] 36 (0, 0)) → wholeR S k = none → ToldSaid ((u.setCell ⟨w.heap.size, 0, none⟩ (.int .u32 0)).setCell ⟨w.heap.size, 1, none⟩ (.slice none 0 0)) w.heap.size (wholeR S k) (.returned (.tuple #[.agg #[.int .u32 0, .slice none 0 0], .bool false]))) := Lib.hid (fun u c0 c1 _ h => by rw [h]; exact rfl)
  cases hT : toldR S with
  | none =>
    rw [hT] at hsaid
    obtain rfl : e = _ := hsaid
    have hW : wholeR S k = none := by rw [wholeR, hT]
    have HW := Lib.hid hW
    clear hT hW
    have hz0 : (w1.alloc (.cells #[.int .u32 0, .slice none 0 0] 36)).heap[w.heap.size]? = _ := ((below_new w1 _).block _ (heap_lt C1.out)).trans C1.out
    have hzb : Below w.heap.size w (w1.alloc (.cells #[.int .u32 0, .slice none 0 0] 36)) := B1.out.alloc B1.out.size _
    have Z0 := Lib.hid hz0
    have ZB := Lib.hid hzb
    obtain ⟨r0, r1⟩ := cell2_of hz0
    have f0 := frozen2_of hz0 0
    have f1 := frozen2_of hz0 1
    clear hz0 hzb
    go_wp2_with fail
    refine bodyPost_ret (results_2_tmp rfl _ _ w.heap.size rfl (heap_set2 Z0.out _ _) Try.underlying36 infoRec2 (.bool false) rfl) rfl ⟨NONE.out _ _ _ Z0.out HW.out, below_set2 ZB.out (Nat.le_refl _) _ _⟩
  | some r =>
    obtain ⟨g, t⟩ := r
    rw [hT] at hsaid
    obtain ⟨u, rfl, ho⟩ := hsaid
    have hok := told_ok SL.out S128.out hT
    have HOK := Lib.hid hok
    have HO := Lib.hid ho
    have HTX := Lib.hid ho.txt
    have hW : wholeR S k = if slotN g = k ∧ secsR g t = S.take (cntR t) then some (g, t) else none := by rw [wholeR, hT]
    have HW := Lib.hid hW
    obtain ⟨tb, toff, tcap, tcs, rfl, -⟩ := ho
    clear hT hW hok
    have hz1 := heap_alloc_self w1 (.cells #[.int .u32 (g : Int), .slice (some ⟨tb, toff, none⟩) t.length tcap] 36)
    have hq0 : (w1.alloc (.cells #[.int .u32 (g : Int), .slice (some ⟨tb, toff, none⟩) t.length tcap] 36)).heap[w.heap.size]? = _ := ((below_new w1 _).block _ (heap_lt C1.out)).trans C1.out
    have hqb : Below w1.heap.size w1 (w1.alloc (.cells #[.int .u32 (g : Int), .slice (some ⟨tb, toff, none⟩) t.length tcap] 36)) := below_new w1 _
    go_wp2_with fail
    generalize w1.alloc (.cells #[.int .u32 (g : Int), .slice (some ⟨tb, toff, none⟩) t.length tcap] 36) = q2 at hz1 hq0 hqb ⊢
    refine (sslot_any g q2).mono ?_
    rintro e w2 ⟨rfl, rfl⟩
    have Z1 := Lib.hid hz1
    have Q0 := Lib.hid hq0
    have QB := Lib.hid (B1.out.trans (hqb.mono B1.out.size))
    have HO2 := Lib.hid (HO.out.below hqb)
    have HT2 := Lib.hid ((HTX.out.below hqb).more hqb.size)
    have SU2 := Lib.hid ((SU.out.below QB.out).more QB.out.size)
    have LW2 : Hid (w1.heap.size < q2.heap.size) := Lib.hid (heap_lt hz1)
    obtain ⟨c0, c1⟩ := cell2_of hz1
    obtain ⟨r0, r1⟩ := cell2_of hq0
    have f0 := frozen2_of hq0 0
    have f1 := frozen2_of hq0 1
    clear hz1 hq0 hqb
    by_cases hs : slotN g = k
    · have hsI : ((slotN g : Nat) : Int) = k := by omega
      go_wp2_with fail
      refine (sectors_any g t _ q2 HOK.out.2.1 HOK.out.2.2 HT2.out).mono ?_
      rintro e w3 ⟨y3, rfl, ha, b3⟩
      obtain ⟨n, hn⟩ : ∃ n, n = cntR t := ⟨_, rfl⟩
      have hlen : (secsR g t).length = n := by rw [secsR_length, hn]
      obtain ⟨A3, c3, rfl⟩ := own_sliceN (show w3.ownsRow _ _ _ _ (secsR g t).length _ from ha)
      obtain ⟨ls, hls⟩ : ∃ ls, ls = secsR g t := ⟨_, rfl⟩
      rw [← hls] at ha hlen ⊢
      rw [hlen]
      have hl128 : ∀ s ∈ ls, s.length = 128 := fun s hs => by rw [hls] at hs; exact secsR_128 hs
      have hn16 : n ≤ 16 := by rw [hn]; exact cntR_le HOK.out.2.2
      have HN := Lib.hid hn
      have HLS := Lib.hid hls
      have HLEN := Lib.hid hlen
      have HL128 := Lib.hid hl128
      have HA := Lib.hid ha
      have B3 := Lib.hid (QB.out.trans (b3.mono QB.out.size))
      have SU3 := Lib.hid (SU2.out.below b3)
      have Z3 := Lib.hid ((b3.block _ (heap_lt Z1.out)).trans Z1.out)
      have C3 := Lib.hid ((b3.block _ (heap_lt Q0.out)).trans Q0.out)
      have O3 := Lib.hid (HO2.out.below b3)
      have LW3 : Hid (q2.heap.size ≤ w3.heap.size) := Lib.hid b3.size
      have HSL := Lib.hid hs
      clear c0 c1 r0 r1 f0 f1 hn hls hlen hl128 ha b3 hs hsI
      go_wp2_with fail
      go_loopw [34] (fun s34 wr => ∃ i : Nat, i ≤ n ∧ s34 = .int .i64 i ∧ (∀ j, j < i → ls[j]? = S[j]?) ∧ Below w3.heap.size w3 wr) (fun s34 _ => n - (intOf s34).toNat)
      case atStart => exact ⟨0, Nat.zero_le _, rfl, fun j hj => by omega, Below.refl _ _⟩
      case round =>
        obtain ⟨i, hi, rfl, heq, hb⟩ := hrel
        have HEQ := Lib.hid heq
        have HB := Lib.hid hb
        clear heq hb
        by_cases hlt : i < n
        · have hlt' : (i : Int) < n := by omega
          have hil : i < ls.length := by rw [HLEN.out]; exact hlt
          have hiS : i < S.length := by rw [SL.out]; omega
          obtain ⟨ab, rfl, hab, hcells⟩ := HA.out.at HL128.out hil
          have hsec : ls[i].length = 128 := HL128.out _ (List.getElem_mem hil)
          have hcw : ∀ j v, (ls[i].map u8)[j]? = some v → wr.cell? ⟨ab, i * 128 + j, none⟩ = some v := fun j v hj => (HB.out.cell (p := ⟨ab, i * 128 + j, none⟩) (cell_lt (hcells j v hj))).trans (hcells j v hj)
          obtain ⟨sb, so, u6, e6, hsb, hcu, htu⟩ := SU3.out.at hiS
          cases e6
          have hs128 : S[i].length = 128 := S128.out _ (List.getElem_mem hiS)
          have HCU := Lib.hid ((HB.out.cell (p := ⟨b, _, none⟩) (cell_lt hcu)).trans hcu)
          have HTU := Lib.hid (htu.more LW3.out)
          have hstep : ls[i] = S[i] → ∀ j, j < i + 1 → ls[j]? = S[j]? := fun e j hj => by
            rcases Nat.lt_or_ge j i with h | h
            · exact HEQ.out j h
            · obtain rfl : j = i := by omega
              rw [List.getElem?_eq_getElem hil, List.getElem?_eq_getElem hiS, e]
          have hdiff : ls[i] ≠ S[i] → wholeR S k = none := fun e => by
            rw [HW.out, if_neg]
            rintro ⟨_, h⟩
            have h1 := congrArg (fun l : List Bs => l[i]?) h
            have hlt2 : i < cntR t := by rw [← HN.out]; exact hlt
            simp only [List.getElem?_take_of_lt hlt2, List.getElem?_eq_getElem hiS] at h1
            rw [← HLS.out, List.getElem?_eq_getElem hil] at h1
            exact e (Option.some.inj h1)
          have HST := Lib.hid hstep
          have HDF := Lib.hid hdiff
          generalize ls[i] = sec at hsec hcw HST HDF
          have HSEC := Lib.hid hsec
          have HCW := Lib.hid hcw
          generalize S[i] = sc at hs128 HST HDF HTU htu
          obtain ⟨A6, c6, rfl, -, -, -, -⟩ := htu
          rw [hs128] at HCU HTU
          clear hstep hdiff hcells hsec hcw hcu hil hiS
          have hz128 := zero128.1
          go_wp2_with (first
            | ((with_reducible show wpList _ _ _ (⟨some 38, _, _, _, _, _⟩ :: _) _ _); refine wpList_load_arr rfl _ rfl ab (i * 128) rfl HSEC.out HCW.out ?_)
            | ((with_reducible show wpList _ _ _ (⟨none, _, _, _, _, _⟩ :: _) _ _); refine wpList_store_row rfl 77 _ _ rfl wr.heap.size rfl rfl (heap_alloc_self _ _) (by rw [rowB_size, HSEC.out]; exact zero128.2) (by rw [rowB_size, HSEC.out]; simp) (rowB_one sec) ?_))
          clear hz128
          rw [World.setRow_alloc_new]
          have hv1 := heap_alloc_self wr (.cells (rowB sec) 77)
          have hvb := below_new wr (.cells (rowB sec) 77)
          change Code.wp _ _ _ _ (wr.alloc (.cells (rowB sec) 77))
          generalize wr.alloc (.cells (rowB sec) 77) = v at hv1 hvb ⊢
          refine wp_region_still_tail 5 (by kernel_rfl) (by kernel_rfl) ?_
          change wpStill _ _ (World.drew v) (fun a' => wpList _ _ _ _ a' (World.drew v)) _ _
          have V1 : Hid (v.drew.heap[wr.heap.size]? = some (.cells (rowB sec) 77 (0, 0))) := Lib.hid hv1
          have VB : Hid (Below wr.heap.size wr v.drew) := Lib.hid hvb.drew
          generalize v.drew = v2 at V1 VB ⊢
          have hcs : v2.cell? ⟨b, off + k + i, none⟩ = some (.slice A6 128 c6) := (VB.out.cell (p := ⟨b, _, none⟩) (cell_lt HCU.out)).trans HCU.out
          have hi16 : (i : Int) < 16 := by omega
          simp only [List.take_succ_cons, List.take_zero, List.drop_succ_cons, List.drop_zero]
          repeat still_step
          refine wpStill_nil ?_
          clear hcs hv1 hvb
          go_wp2_with fail
          have hx1 := txt_of_block V1.out (by rw [HSEC.out]; unfold maxLen; omega)
          rw [HSEC.out] at hx1
          refine (equal_any _ _ sec sc v2 hx1 (HTU.out.below (HB.out.trans (VB.out.mono HB.out.size)))).mono ?_
          rintro e v3 ⟨rfl, rfl⟩
          have BV := Lib.hid (HB.out.trans (VB.out.mono HB.out.size))
          clear hx1 V1 VB
          by_cases he : sec = sc
          · have hd : decide (sec = sc) = true := decide_eq_true he
            have HS2 := Lib.hid (HST.out he)
            rw [hd]
            clear he hd
            go_wp2_with fail
            go_roundw
            case measure => simp [intOf]; omega
            case rel => exact ⟨i + 1, by omega, by go_num, HS2.out, BV.out⟩
          · have hd : decide (sec = sc) = false := decide_eq_false he
            have HW2 := Lib.hid (HDF.out he)
            rw [hd]
            clear he hd
            have hc := (BV.out.block _ (heap_lt C3.out)).trans C3.out
            have C4 := Lib.hid hc
            have B4 := Lib.hid (B3.out.trans (BV.out.mono B3.out.size))
            obtain ⟨r0, r1⟩ := cell2_of hc
            have f0 := frozen2_of hc 0
            have f1 := frozen2_of hc 1
            clear hc
            go_wp2_with fail
            exact bodyPost_ret (results_2_tmp rfl _ _ w.heap.size rfl (heap_set2 C4.out _ _) Try.underlying36 infoRec2 (.bool false) rfl) rfl ⟨NONE.out _ _ _ C4.out HW2.out, below_set2 B4.out (Nat.le_refl _) _ _⟩
        · obtain rfl : i = n := by omega
          have hlt' : ¬ (i : Int) < i := by omega
          have hWs : wholeR S k = some (g, t) := by
            rw [HW.out, if_pos]
            refine ⟨HSL.out, taken_eq (by rw [SL.out]; exact cntR_le HOK.out.2.2) (fun j hj => ?_)⟩
            rw [← HLS.out]
            exact HEQ.out j (by rw [HN.out]; exact hj)
          have hz := (HB.out.block _ (heap_lt Z3.out)).trans Z3.out
          have hc := (HB.out.block _ (heap_lt C3.out)).trans C3.out
          have C4 := Lib.hid hc
          have B4 := Lib.hid (B3.out.trans (HB.out.mono B3.out.size))
          have O4 := Lib.hid (O3.out.below HB.out)
          have HWS := Lib.hid hWs
          obtain ⟨k0, k1⟩ := cell2_of hz
          obtain ⟨r0, r1⟩ := cell2_of hc
          have f0 := frozen2_of hc 0
          have f1 := frozen2_of hc 1
          clear hz hc hWs
          go_wp2_with fail
          have hne : tb ≠ w.heap.size := by
            obtain ⟨b9, _, _, _, e9, h9, _⟩ := HO.out
            cases e9
            have := LQ.out
            omega
          refine bodyPost_ret (results_2_tmp rfl _ _ w.heap.size rfl (heap_set2 C4.out _ _) Try.underlying36 infoRec2 (.bool true) rfl) rfl ⟨?_, below_set2 B4.out (Nat.le_refl _) _ _⟩
          rw [HWS.out]
          refine ⟨_, rfl, ?_⟩
          obtain ⟨b9, o9, p9, cs9, e9, h9, g9, hr9⟩ := O4.out
          cases e9
          exact ⟨tb, toff, tcap, cs9, rfl, by have := LQ.out; omega, (heap_setFar _ w.heap.size 1 tb _ hne).trans ((heap_setFar _ w.heap.size 0 tb _ hne).trans g9), hr9⟩
    · have hsI : ¬ ((slotN g : Nat) : Int) = k := by omega
      have hWn := HW.out
      rw [if_neg (fun h => hs h.1)] at hWn
      have HWN := Lib.hid hWn
      clear hWn
      go_wp2_with fail
      exact bodyPost_ret (results_2_tmp rfl _ _ w.heap.size rfl (heap_set2 Q0.out _ _) Try.underlying36 infoRec2 (.bool false) rfl) rfl ⟨NONE.out _ _ _ Q0.out HWN.out, below_set2 QB.out (Nat.le_refl _) _ _⟩
end Go.Proofs.Ytdjoflhcagfmiaa
