/-
  The statement SlotDoes' text returns true: records are put and found as the document says, and what is answered is new memory.
  Conditions: each list is as long as a list may be that is read before the call.
-/
import Derived.Test.YtdjoflhcagfmiaaSlotDoesM
import Derived.Test.YtdjoflhcagfmiaaSixPutW
import Derived.Test.YtdjoflhcagfmiaaSixFind
import Derived.Test.YtdjoflhcagfmiaaSixSame
import Derived.Test.YtdjoflhcagfmiaaSixNext
import Derived.Test.YtdjoflhcagfmiaaRefSame
import Derived.Test.YtdjoflhcagfmiaaRefTwin
import Derived.Test.YtdjoflhcagfmiaaMFind
import Derived.StillTailTactics
import Derived.Deep.CutRange
set_option linter.unusedVariables false
set_option linter.unusedSimpArgs false
set_option maxRecDepth 100000
namespace Go.Proofs.Ytdjoflhcagfmiaa
open Go.RowKit

theorem own_txtL {W : World} {base n : Nat} {v : Value} {ys : List Value} {xs : Bs} (h : W.ownsRow base 5 1 v n ys) (hy : ys = xs.map u8) (hn : n = xs.length) (hl : xs.length ≤ 100000) : Txt W W.heap.size v xs := by
  subst hy hn
  exact Txt.own (by unfold maxLen; omega) h
theorem box_setFar {W : World} {p g k : Nat} {c cur : Array Value} {T : TypeId} {v : Value} (hT : T ≠ 5) (h : W.heap[p]? = some (.cells c T (0, 0))) (hg : W.heap[g]? = some (.cells cur 5 (0, 0))) : (W.setCell ⟨g, k, none⟩ v).heap[p]? = some (.cells c T (0, 0)) :=
  (heap_setFar W g k p v (fun e => by
    subst e
    rw [h] at hg
    cases hg
    exact hT rfl)).trans h
theorem findR_len (ss : List Bs) (ws : List Wr) : (findR ss ws).length ≤ 2 := by
  rw [findR]
  split
  · exact find_length _
  · simp
set_option maxHeartbeats 16000000 in
theorem walk_does (d tv : Value) (ss : List Bs) (ws : List Wr) (g : Nat) (t : Bs) (hg : g < 4294967296) (hr : Reach47 ss ws) (w : World) (h : DiskIn w w.heap.size d ss ws) (ht : Txt w w.heap.size tv t) :
    Calls Try.prog 4 #[d, .agg #[.int .u32 (g : Int), tv]] w fun e w' => e = .returned (.bool true) ∧ Below w.heap.size w w' := by
  obtain ⟨v1, v2, rfl, h1, h2⟩ := id h
  obtain ⟨i0, hi, hz0, hz1, hz2⟩ := info_parts infoByte
  have J0 := Lib.hid hi
  have J1 := Lib.hid hz0
  have J2 := Lib.hid hz1
  have J3 := Lib.hid hz2
  clear hi hz0 hz1 hz2
  have H := Lib.hid h
  have HT := Lib.hid ht
  have HR47 := Lib.hid hr
  have HG := Lib.hid hg
  obtain ⟨A1, c1, rfl, -, -, -, -⟩ := h1
  obtain ⟨A2, c2, rfl, -, -, -, -⟩ := h2
  obtain ⟨A3, c3, rfl, h3l, h3m, -, -⟩ := ht
  have hq := two_boxes w (.cells #[.slice A1 ss.length c1, .slice A2 ws.length c2] 29) (.cells #[.int .u32 (g : Int), .slice A3 t.length c3] 36)
  have htl : (t.length : Int) ≤ 9223372036854775807 := by unfold maxLen at h3m; omega
  clear h hr
  go_enter Try.func4, Try.ntmps4
  go_wp2_with fail
  generalize (w.alloc (.cells #[.slice A1 ss.length c1, .slice A2 ws.length c2] 29)).alloc (.cells #[.int .u32 (g : Int), .slice A3 t.length c3] 36) = q at hq ⊢
  obtain ⟨q0, q1, qb⟩ := hq
  have BW := Lib.hid qb
  have X0 := Lib.hid q0
  have X1 := Lib.hid q1
  clear q0 q1 qb h3l h3m
  
  refine (great_small _ ss ws q ((H.out.below BW.out).more BW.out.size) HR47.out).mono ?_
  rintro e w1 ⟨⟨gb, rfl, hsm⟩, b1⟩
  have tBW := BW.out.trans (b1.mono BW.out.size)
  have tX0 := (b1.block _ (heap_lt X0.out)).trans X0.out
  have tX1 := (b1.block _ (heap_lt X1.out)).trans X1.out
  clear BW X0 X1
  have BW := Lib.hid tBW
  have X0 := Lib.hid tX0
  have X1 := Lib.hid tX1
  clear tBW tX0 tX1 b1
  obtain ⟨k0, k1⟩ := cell2_of X0.out
  obtain ⟨m0, m1⟩ := cell2_of X1.out
  cases gb with
  | true =>
    clear hsm
    go_wp2_with fail
    go_ret
    exact ⟨rfl, BW.out⟩
  | false =>
    have SM := Lib.hid (hsm rfl)
    clear hsm
    by_cases hl : 10000 < t.length
    · have hl' : (10000 : Int) < t.length := by omega
      clear hl
      go_wp2_with fail
      go_ret
      exact ⟨rfl, BW.out⟩
    · have hl' : ¬ (10000 : Int) < t.length := by omega
      have HL : Hid (t.length ≤ 10000) := Lib.hid (by omega)
      clear hl
      go_wp2_with fail
      refine (rtwin_any _ ss ws w1 ((H.out.below BW.out).more BW.out.size) SM.out.fits).mono ?_
      rintro e w2 ⟨x1, x2, mm, rfl, hs2, hw2, hm2, -, b2, -⟩
      obtain ⟨A4, n4, c4, rfl⟩ := secs_any hs2
      obtain ⟨A5, n5, c5, rfl⟩ := wts_any hw2
      have OW : Hid (DiskAt w2 w1.heap.size (.agg #[.slice A4 n4 c4, .slice A5 n5 c5]) ss ws) := Lib.hid ⟨_, _, rfl, hs2, hw2.mono hm2⟩
      clear hs2 hw2 hm2
      clear k0 k1 m0 m1
      have tBW := BW.out.trans (b2.mono BW.out.size)
      have tX0 := (b2.block _ (heap_lt X0.out)).trans X0.out
      have tX1 := (b2.block _ (heap_lt X1.out)).trans X1.out
      clear BW X0 X1
      have BW := Lib.hid tBW
      have X0 := Lib.hid tX0
      have X1 := Lib.hid tX1
      clear tBW tX0 tX1 b2
      obtain ⟨q5, hq5, q50, q5b⟩ : ∃ q : World, q = w2.alloc (.cells #[.slice A4 n4 c4, .slice A5 n5 c5] 29) ∧ q.heap[w2.heap.size]? = some (.cells #[.slice A4 n4 c4, .slice A5 n5 c5] 29 (0, 0)) ∧ Below w2.heap.size w2 q := ⟨_, rfl, heap_alloc_self _ _, below_new _ _⟩
      have tBW := BW.out.trans (q5b.mono BW.out.size)
      have tX0 := (q5b.block _ (heap_lt X0.out)).trans X0.out
      have tX1 := (q5b.block _ (heap_lt X1.out)).trans X1.out
      have tOW := OW.out.below q5b
      clear BW X0 X1 OW
      have BW := Lib.hid tBW
      have X0 := Lib.hid tX0
      have X1 := Lib.hid tX1
      have OW := Lib.hid tOW
      clear tBW tX0 tX1 tOW q5b
      have X5 := Lib.hid q50
      clear q50
      
      go_upto_region 4 with fail
      rw [← hq5]
      clear hq5
      generalize w2.heap.size = p5 at X5 ⊢
      have HTW := Lib.hid ((HT.out.below BW.out).more BW.out.size)
      go_cut [6] from 32 to 37 (fun s6 wx => ∃ p A n c, s6 = .pointer (some ⟨p, 0, none⟩) ∧ wx.heap[p]? = some (.cells #[.int .u32 (g : Int), .slice A n c] 36 (0, 0)) ∧ n = t.length ∧ Txt wx wx.heap.size (.slice A n c) t ∧ Below q5.heap.size q5 wx)
      case first =>
        refine wp_region_held_drew (S := fun v => Below q5.heap.size q5 v) (by kernel_rfl) (Below.refl q5.heap.size q5).drew (fun hHeld => ?_)
        refine wpAnyH_take (i := 0) (v := ?_) rfl (by kernel_rfl) (by kernel_rfl) (by kernel_rfl) (fun _ _ _ h => h) (Or.inl ⟨by rfl, ?_⟩) hHeld ?_
        rotate_left
        · intro w' hSw; go_simp; try with_reducible rfl
        simp only [List.getElem_toArray, List.getElem_cons_succ, List.getElem_cons_zero, Act.put, List.setIfInBounds_toArray, List.set_cons_zero, List.set_cons_succ]
        refine wpAnyH_take (i := 1) (v := ?_) rfl (by kernel_rfl) (by kernel_rfl) (by kernel_rfl) (fun _ _ _ h => h) (Or.inl ⟨by rfl, ?_⟩) hHeld ?_
        rotate_left
        · intro w' hSw; obtain ⟨cv0, cv1⟩ := cell2_of ((hSw.block _ (heap_lt X1.out)).trans X1.out); go_simp; try with_reducible rfl
        simp only [List.getElem_toArray, List.getElem_cons_succ, List.getElem_cons_zero, Act.put, List.setIfInBounds_toArray, List.set_cons_zero, List.set_cons_succ]
        refine wpAnyH_take (i := 2) (v := ?_) rfl (by kernel_rfl) (by kernel_rfl) (by kernel_rfl) (fun _ _ _ h => h) (Or.inl ⟨by rfl, ?_⟩) hHeld ?_
        rotate_left
        · intro w' hSw; go_simp; try with_reducible rfl
        simp only [List.getElem_toArray, List.getElem_cons_succ, List.getElem_cons_zero, Act.put, List.setIfInBounds_toArray, List.set_cons_zero, List.set_cons_succ]
        refine wpAnyH_take (i := 3) (v := ?_) rfl (by kernel_rfl) (by kernel_rfl) (by kernel_rfl) (fun _ _ _ h => h) (Or.inl ⟨by rfl, ?_⟩) hHeld ?_
        rotate_left
        · intro w' hSw; obtain ⟨cv0, cv1⟩ := cell2_of ((hSw.block _ (heap_lt X1.out)).trans X1.out); go_simp; try with_reducible rfl
        simp only [List.getElem_toArray, List.getElem_cons_succ, List.getElem_cons_zero, Act.put, List.setIfInBounds_toArray, List.set_cons_zero, List.set_cons_succ]
        refine wpAnyH_ready (rs := [4, 6]) (by kernel_rfl) (by simp) ?_
        refine AllReadyH.cons rfl (fun K hK => ?_) (AllReadyH.cons rfl (fun K hK => ?_) AllReadyH.nil)
        · rw [if_pos (by rfl)]
          refine wp_append_txt (.const (.slice none 0 0)) (.tmp 35) _ rfl Try.underlying34 J0.out J1.out J2.out J3.out rfl (World.ownsRow_nil q5.drew (q5.heap.size) _ _) rfl (HTW.out.below (Below.refl q5.heap.size q5).drew) (by have := HL.out; omega) (Nat.le_refl _) ?_
          intro v9 w9 hown9 hgrow9
          rw [Nat.zero_add, List.nil_append] at hown9
          obtain ⟨A9, c9, rfl⟩ := own_slice_ hown9
          have O9 := Lib.hid hown9
          have G9 := Lib.hid hgrow9
          have B9 : Hid (Below q5.heap.size q5 w9) := Lib.hid (((Below.refl q5.heap.size q5).drew).grown hgrow9 ((Below.refl q5.heap.size q5).drew).size (fun k hk => by cases hk))
          clear hown9 hgrow9
          try go_wp2_with fail
          refine hK.out _ _ ?_ (fun hHeld => ?_)
          · exact B9.out
          clear hK K
          try simp only [List.getElem_toArray, List.getElem_cons_succ, List.getElem_cons_zero, Act.put, List.setIfInBounds_toArray, List.set_cons_zero, List.set_cons_succ]
          refine wpAnyH_take (i := 5) (v := ?_) rfl (by kernel_rfl) (by kernel_rfl) (by kernel_rfl) (fun _ _ _ h => h) (Or.inl ⟨by rfl, ?_⟩) hHeld ?_
          rotate_left
          · intro w' hSw; go_simp; try with_reducible rfl
          simp only [List.getElem_toArray, List.getElem_cons_succ, List.getElem_cons_zero, Act.put, List.setIfInBounds_toArray, List.set_cons_zero, List.set_cons_succ]
          refine wpAnyH_ready (rs := [6]) (by kernel_rfl) (by simp) ?_
          refine AllReadyH.cons rfl (fun K hK => ?_) AllReadyH.nil
          go_simp
          refine hK.out _ _ ?_ (fun hHeld => ?_)
          · exact B9.out.alloc B9.out.size _
          clear hK K
          try simp only [List.getElem_toArray, List.getElem_cons_succ, List.getElem_cons_zero, Act.put, List.setIfInBounds_toArray, List.set_cons_zero, List.set_cons_succ]
          refine wpAnyH_ready (rs := [7]) (by kernel_rfl) (by simp) ?_
          refine AllReadyH.cons rfl (fun K hK => ?_) AllReadyH.nil
          rw [if_pos (by rfl)]
          refine wp_store_2 36 _ _ rfl w9.heap.size rfl rfl (heap_alloc_self _ _) infoRec2 rfl rfl ?_
          rw [World.setRow_alloc_new]
          refine hK.out _ _ ?_ (fun hHeld => ?_)
          · exact B9.out.alloc B9.out.size _
          clear hK K
          try simp only [List.getElem_toArray, List.getElem_cons_succ, List.getElem_cons_zero, Act.put, List.setIfInBounds_toArray, List.set_cons_zero, List.set_cons_succ]
          refine wpAnyH_done (by kernel_rfl) ?_ _
          go_wp2_with fail
          go_meet
          exact ⟨_, A9, _, c9, rfl, heap_alloc_self _ _, rfl, own_txtL ((owns_mono O9.out (Nat.le_refl _)).alloc _) rfl rfl (by have := HL.out; omega), B9.out.alloc B9.out.size _⟩
        · go_simp
          refine hK.out _ _ ?_ (fun hHeld => ?_)
          · exact (below_new q5 _).drew
          clear hK K
          try simp only [List.getElem_toArray, List.getElem_cons_succ, List.getElem_cons_zero, Act.put, List.setIfInBounds_toArray, List.set_cons_zero, List.set_cons_succ]
          refine wpAnyH_ready (rs := [4]) (by kernel_rfl) (by simp) ?_
          refine AllReadyH.cons rfl (fun K hK => ?_) AllReadyH.nil
          rw [if_pos (by rfl)]
          refine wp_append_txt (.const (.slice none 0 0)) (.tmp 35) _ rfl Try.underlying34 J0.out J1.out J2.out J3.out rfl (World.ownsRow_nil (q5.alloc (.cells #[.int .u32 0, .slice none 0 0] 36)).drew (q5.heap.size + 1) _ _) rfl (HTW.out.below (below_new q5 (.cells #[.int .u32 0, .slice none 0 0] 36)).drew) (by have := HL.out; omega) (by rw [show (q5.alloc (.cells #[.int .u32 0, .slice none 0 0] 36)).drew.heap.size = q5.heap.size + 1 from heap_alloc_size _ _]; exact Nat.le_refl _) ?_
          intro v9 w9 hown9 hgrow9
          rw [Nat.zero_add, List.nil_append] at hown9
          obtain ⟨A9, c9, rfl⟩ := own_slice_ hown9
          have O9 := Lib.hid hown9
          have G9 := Lib.hid hgrow9
          have B9 : Hid (Below q5.heap.size q5 w9) := Lib.hid (((below_new q5 (.cells #[.int .u32 0, .slice none 0 0] 36)).drew).grown hgrow9 ((below_new q5 (.cells #[.int .u32 0, .slice none 0 0] 36)).drew).size (fun k hk => by cases hk))
          clear hown9 hgrow9
          try go_wp2_with fail
          refine hK.out _ _ ?_ (fun hHeld => ?_)
          · exact B9.out
          clear hK K
          try simp only [List.getElem_toArray, List.getElem_cons_succ, List.getElem_cons_zero, Act.put, List.setIfInBounds_toArray, List.set_cons_zero, List.set_cons_succ]
          refine wpAnyH_take (i := 5) (v := ?_) rfl (by kernel_rfl) (by kernel_rfl) (by kernel_rfl) (fun _ _ _ h => h) (Or.inl ⟨by rfl, ?_⟩) hHeld ?_
          rotate_left
          · intro w' hSw; go_simp; try with_reducible rfl
          simp only [List.getElem_toArray, List.getElem_cons_succ, List.getElem_cons_zero, Act.put, List.setIfInBounds_toArray, List.set_cons_zero, List.set_cons_succ]
          refine wpAnyH_ready (rs := [7]) (by kernel_rfl) (by simp) ?_
          refine AllReadyH.cons rfl (fun K hK => ?_) AllReadyH.nil
          rw [if_pos (by rfl)]
          have hbx : w9.heap[q5.heap.size]? = some (.cells #[.int .u32 0, .slice none 0 0] 36 (0, 0)) := (G9.out.block _ (Nat.lt_of_lt_of_le (Nat.lt_succ_self _) (Nat.le_of_eq (heap_alloc_size q5 _).symm)) (fun e => by cases e)).trans (heap_alloc_self q5 _)
          refine wp_store_2 36 _ _ rfl q5.heap.size rfl rfl hbx infoRec2 rfl rfl ?_
          refine hK.out _ _ ?_ (fun hHeld => ?_)
          · exact below_setRow B9.out (Nat.le_refl _) _
          clear hK K
          try simp only [List.getElem_toArray, List.getElem_cons_succ, List.getElem_cons_zero, Act.put, List.setIfInBounds_toArray, List.set_cons_zero, List.set_cons_succ]
          refine wpAnyH_done (by kernel_rfl) ?_ _
          go_wp2_with fail
          go_meet
          exact ⟨_, A9, _, c9, rfl, setRow_heap _ _ _ _ _ _ hbx, rfl, own_txtL (owns_setRow O9.out (Nat.lt_succ_self _) _) rfl rfl (by have := HL.out; omega), below_setRow B9.out (Nat.le_refl _) _⟩
      case rest =>
        obtain ⟨p6, A6, n6, c6, rfl, hx6, rfl, ht6, hbl⟩ := hcut
        obtain ⟨w6, hw6⟩ : ∃ w6 : World, w6 = wc := ⟨_, rfl⟩
        subst hw6
        have tBW := BW.out.trans (hbl.mono BW.out.size)
        have tX0 := (hbl.block _ (heap_lt X0.out)).trans X0.out
        have tX1 := (hbl.block _ (heap_lt X1.out)).trans X1.out
        have tOW := OW.out.below hbl
        have tX5 := (hbl.block _ (heap_lt X5.out)).trans X5.out
        clear BW X0 X1 OW X5
        have BW := Lib.hid tBW
        have X0 := Lib.hid tX0
        have X1 := Lib.hid tX1
        have OW := Lib.hid tOW
        have X5 := Lib.hid tX5
        clear tBW tX0 tX1 tOW tX5 hbl
        have X6 := Lib.hid hx6
        have TM := Lib.hid ht6
        have BL : Hid (Below w6.heap.size w6 w6) := Lib.hid (Below.refl _ _)
        clear hx6 ht6 HTW
        have Y0 := Lib.hid X0.out
        have Y1 := Lib.hid X1.out
        have Y5 := Lib.hid X5.out
        have Y6 := Lib.hid X6.out
        have YO := Lib.hid OW.out
        have YT := Lib.hid TM.out
        have YB := Lib.hid BW.out
        obtain ⟨k0, k1⟩ := cell2_of X5.out
        obtain ⟨m0, m1⟩ := cell2_of X6.out
        go_wp2_with fail
        refine (sput_any _ _ ss ws g t hg w6 OW.out.in_ TM.out).mono ?_
        rintro e w7 ⟨d7, rfl, hd7, b7⟩
        have PT := Lib.hid (put_tells (ss := ss) (ws := ws) (g := g) (t := t))
        have P128 := Lib.hid (put_128 (ss := ss) (ws := ws) (g := g) (t := t))
        obtain ⟨E, hE⟩ : ∃ E, E = putE ss ws g t := ⟨_, rfl⟩
        obtain ⟨S', hS'⟩ : ∃ S', S' = putS ss ws g t := ⟨_, rfl⟩
        obtain ⟨W', hW'⟩ : ∃ W', W' = putW ss ws g t := ⟨_, rfl⟩
        rw [← hE]
        rw [← hS', ← hW'] at hd7 PT
        rw [← hW'] at P128
        have HE := Lib.hid hE
        have HS' := Lib.hid hS'
        have HW' := Lib.hid hW'
        obtain ⟨y1, y2, rfl, hy1, hy2⟩ := id hd7
        obtain ⟨A7, n7, c7, rfl⟩ := secs_any hy1
        obtain ⟨A8, c8, rfl⟩ := wts_slice hy2
        obtain ⟨n8, hn8⟩ : ∃ n8, n8 = W'.length := ⟨_, rfl⟩
        rw [← hn8] at hd7 hy2 ⊢
        have HN8 := Lib.hid hn8
        have DA := Lib.hid hd7
        clear hy1 hy2 hd7 hE hS' hW' hn8
        have L7 := Lib.hid b7.size
        clear k0 k1 m0 m1
        have tBW := BW.out.trans (b7.mono BW.out.size)
        have tX0 := (b7.block _ (heap_lt X0.out)).trans X0.out
        have tX1 := (b7.block _ (heap_lt X1.out)).trans X1.out
        have tOW := OW.out.below b7
        have tX5 := (b7.block _ (heap_lt X5.out)).trans X5.out
        have tX6 := (b7.block _ (heap_lt X6.out)).trans X6.out
        have tTM := (TM.out.below b7).more b7.size
        have tBL := BL.out.trans (b7.mono BL.out.size)
        clear BW X0 X1 OW X5 X6 TM BL
        have BW := Lib.hid tBW
        have X0 := Lib.hid tX0
        have X1 := Lib.hid tX1
        have OW := Lib.hid tOW
        have X5 := Lib.hid tX5
        have X6 := Lib.hid tX6
        have TM := Lib.hid tTM
        have BL := Lib.hid tBL
        clear tBW tX0 tX1 tOW tX5 tX6 tTM tBL b7
        obtain ⟨q7, hq7, q70, q7b⟩ : ∃ q : World, q = w7.alloc (.cells #[.slice A7 n7 c7, .slice A8 n8 c8] 29) ∧ q.heap[w7.heap.size]? = some (.cells #[.slice A7 n7 c7, .slice A8 n8 c8] 29 (0, 0)) ∧ Below w7.heap.size w7 q := ⟨_, rfl, heap_alloc_self _ _, below_new _ _⟩
        have tBW := BW.out.trans (q7b.mono BW.out.size)
        have tX0 := (q7b.block _ (heap_lt X0.out)).trans X0.out
        have tX1 := (q7b.block _ (heap_lt X1.out)).trans X1.out
        have tOW := OW.out.below q7b
        have tX5 := (q7b.block _ (heap_lt X5.out)).trans X5.out
        have tX6 := (q7b.block _ (heap_lt X6.out)).trans X6.out
        have tTM := (TM.out.below q7b).more q7b.size
        have tBL := BL.out.trans (q7b.mono BL.out.size)
        have tDA := DA.out.below q7b
        clear BW X0 X1 OW X5 X6 TM BL DA
        have BW := Lib.hid tBW
        have X0 := Lib.hid tX0
        have X1 := Lib.hid tX1
        have OW := Lib.hid tOW
        have X5 := Lib.hid tX5
        have X6 := Lib.hid tX6
        have TM := Lib.hid tTM
        have BL := Lib.hid tBL
        have DA := Lib.hid tDA
        clear tBW tX0 tX1 tOW tX5 tX6 tTM tBL tDA q7b
        have X7 := Lib.hid q70
        clear q70
        
        go_upto_region 6 with fail
        rw [← hq7]
        clear hq7
        generalize w7.heap.size = p7 at X7 L7 ⊢
        obtain ⟨k0, k1⟩ := cell2_of X0.out
        obtain ⟨m0, m1⟩ := cell2_of X1.out
        go_wp2_with fail
        refine (rput6_any _ _ ss ws g t hg q7 ((H.out.below BW.out).more BW.out.size) ((HT.out.below BW.out).more BW.out.size)).mono ?_
        rintro e w8 ⟨d8, rfl, hd8, b8⟩
        rw [← HE.out]
        rw [← HS'.out, ← HW'.out] at hd8
        obtain ⟨y1, y2, rfl, hy1, hy2⟩ := id hd8
        obtain ⟨A9, n9, c9, rfl⟩ := secs_any hy1
        obtain ⟨A10, n10, c10, rfl⟩ := wts_any hy2
        have DB := Lib.hid hd8
        clear hy1 hy2 hd8
        clear k0 k1 m0 m1
        have tBW := BW.out.trans (b8.mono BW.out.size)
        have tX0 := (b8.block _ (heap_lt X0.out)).trans X0.out
        have tX1 := (b8.block _ (heap_lt X1.out)).trans X1.out
        have tOW := OW.out.below b8
        have tX5 := (b8.block _ (heap_lt X5.out)).trans X5.out
        have tX6 := (b8.block _ (heap_lt X6.out)).trans X6.out
        have tTM := (TM.out.below b8).more b8.size
        have tBL := BL.out.trans (b8.mono BL.out.size)
        have tDA := DA.out.below b8
        have tX7 := (b8.block _ (heap_lt X7.out)).trans X7.out
        clear BW X0 X1 OW X5 X6 TM BL DA X7
        have BW := Lib.hid tBW
        have X0 := Lib.hid tX0
        have X1 := Lib.hid tX1
        have OW := Lib.hid tOW
        have X5 := Lib.hid tX5
        have X6 := Lib.hid tX6
        have TM := Lib.hid tTM
        have BL := Lib.hid tBL
        have DA := Lib.hid tDA
        have X7 := Lib.hid tX7
        clear tBW tX0 tX1 tOW tX5 tX6 tTM tBL tDA tX7 b8
        obtain ⟨q9, hq9, q90, q9b⟩ : ∃ q : World, q = w8.alloc (.cells #[.slice A9 n9 c9, .slice A10 n10 c10] 29) ∧ q.heap[w8.heap.size]? = some (.cells #[.slice A9 n9 c9, .slice A10 n10 c10] 29 (0, 0)) ∧ Below w8.heap.size w8 q := ⟨_, rfl, heap_alloc_self _ _, below_new _ _⟩
        have tBW := BW.out.trans (q9b.mono BW.out.size)
        have tX0 := (q9b.block _ (heap_lt X0.out)).trans X0.out
        have tX1 := (q9b.block _ (heap_lt X1.out)).trans X1.out
        have tOW := OW.out.below q9b
        have tX5 := (q9b.block _ (heap_lt X5.out)).trans X5.out
        have tX6 := (q9b.block _ (heap_lt X6.out)).trans X6.out
        have tTM := (TM.out.below q9b).more q9b.size
        have tBL := BL.out.trans (q9b.mono BL.out.size)
        have tDA := DA.out.below q9b
        have tX7 := (q9b.block _ (heap_lt X7.out)).trans X7.out
        have tDB := DB.out.below q9b
        clear BW X0 X1 OW X5 X6 TM BL DA X7 DB
        have BW := Lib.hid tBW
        have X0 := Lib.hid tX0
        have X1 := Lib.hid tX1
        have OW := Lib.hid tOW
        have X5 := Lib.hid tX5
        have X6 := Lib.hid tX6
        have TM := Lib.hid tTM
        have BL := Lib.hid tBL
        have DA := Lib.hid tDA
        have X7 := Lib.hid tX7
        have DB := Lib.hid tDB
        clear tBW tX0 tX1 tOW tX5 tX6 tTM tBL tDA tX7 tDB q9b
        have X9 := Lib.hid q90
        clear q90
        
        go_upto_region 7 with fail
        rw [← hq9]
        clear hq9
        generalize w8.heap.size = p9 at X9 ⊢
        obtain ⟨k0, k1⟩ := cell2_of X5.out
        go_wp2_with fail
        refine (sfind_any _ ss ws q9 OW.out.in_).mono ?_
        rintro e w10 ⟨z10, rfl, hr10, b10⟩
        obtain ⟨A11, c11, rfl⟩ := hr10.slice
        obtain ⟨n11, hn11⟩ : ∃ n11, n11 = (findR ss ws).length := ⟨_, rfl⟩
        have RX := Lib.hid hr10
        rw [← hn11] at RX ⊢
        have HN11 := Lib.hid hn11
        have L10 : Hid (w6.heap.size ≤ q9.heap.size) := Lib.hid BL.out.size
        clear hr10 hn11
        clear k0 k1
        have tBW := BW.out.trans (b10.mono BW.out.size)
        have tX0 := (b10.block _ (heap_lt X0.out)).trans X0.out
        have tX1 := (b10.block _ (heap_lt X1.out)).trans X1.out
        have tOW := OW.out.below b10
        have tX5 := (b10.block _ (heap_lt X5.out)).trans X5.out
        have tX6 := (b10.block _ (heap_lt X6.out)).trans X6.out
        have tTM := (TM.out.below b10).more b10.size
        have tBL := BL.out.trans (b10.mono BL.out.size)
        have tDA := DA.out.below b10
        have tX7 := (b10.block _ (heap_lt X7.out)).trans X7.out
        have tDB := DB.out.below b10
        have tX9 := (b10.block _ (heap_lt X9.out)).trans X9.out
        clear BW X0 X1 OW X5 X6 TM BL DA X7 DB X9
        have BW := Lib.hid tBW
        have X0 := Lib.hid tX0
        have X1 := Lib.hid tX1
        have OW := Lib.hid tOW
        have X5 := Lib.hid tX5
        have X6 := Lib.hid tX6
        have TM := Lib.hid tTM
        have BL := Lib.hid tBL
        have DA := Lib.hid tDA
        have X7 := Lib.hid tX7
        have DB := Lib.hid tDB
        have X9 := Lib.hid tX9
        clear tBW tX0 tX1 tOW tX5 tX6 tTM tBL tDA tX7 tDB tX9 b10
        obtain ⟨k0, k1⟩ := cell2_of X0.out
        go_wp2_with fail
        refine (rfind6_any _ ss ws w10 ((H.out.below BW.out).more BW.out.size)).mono ?_
        rintro e w11 ⟨z11, rfl, hr11, b11⟩
        obtain ⟨A12, c12, rfl, -⟩ := id hr11
        have RY := Lib.hid hr11
        clear hr11
        clear k0 k1
        have tBW := BW.out.trans (b11.mono BW.out.size)
        have tX0 := (b11.block _ (heap_lt X0.out)).trans X0.out
        have tX1 := (b11.block _ (heap_lt X1.out)).trans X1.out
        have tOW := OW.out.below b11
        have tX5 := (b11.block _ (heap_lt X5.out)).trans X5.out
        have tX6 := (b11.block _ (heap_lt X6.out)).trans X6.out
        have tTM := (TM.out.below b11).more b11.size
        have tBL := BL.out.trans (b11.mono BL.out.size)
        have tDA := DA.out.below b11
        have tX7 := (b11.block _ (heap_lt X7.out)).trans X7.out
        have tDB := DB.out.below b11
        have tX9 := (b11.block _ (heap_lt X9.out)).trans X9.out
        have tRX := RX.out.below b11
        clear BW X0 X1 OW X5 X6 TM BL DA X7 DB X9 RX
        have BW := Lib.hid tBW
        have X0 := Lib.hid tX0
        have X1 := Lib.hid tX1
        have OW := Lib.hid tOW
        have X5 := Lib.hid tX5
        have X6 := Lib.hid tX6
        have TM := Lib.hid tTM
        have BL := Lib.hid tBL
        have DA := Lib.hid tDA
        have X7 := Lib.hid tX7
        have DB := Lib.hid tDB
        have X9 := Lib.hid tX9
        have RX := Lib.hid tRX
        clear tBW tX0 tX1 tOW tX5 tX6 tTM tBL tDA tX7 tDB tX9 tRX b11
        obtain ⟨k0, k1⟩ := cell2_of X5.out
        obtain ⟨m0, m1⟩ := cell2_of X1.out
        go_wp2_with fail
        refine (snext_any _ ss ws g hg w11 OW.out.in_).mono ?_
        rintro e w12 ⟨rfl, b12⟩
        clear k0 k1 m0 m1
        have tBW := BW.out.trans (b12.mono BW.out.size)
        have tX0 := (b12.block _ (heap_lt X0.out)).trans X0.out
        have tX1 := (b12.block _ (heap_lt X1.out)).trans X1.out
        have tOW := OW.out.below b12
        have tX5 := (b12.block _ (heap_lt X5.out)).trans X5.out
        have tX6 := (b12.block _ (heap_lt X6.out)).trans X6.out
        have tTM := (TM.out.below b12).more b12.size
        have tBL := BL.out.trans (b12.mono BL.out.size)
        have tDA := DA.out.below b12
        have tX7 := (b12.block _ (heap_lt X7.out)).trans X7.out
        have tDB := DB.out.below b12
        have tX9 := (b12.block _ (heap_lt X9.out)).trans X9.out
        have tRX := RX.out.below b12
        have tRY := (RY.out.below b12).more b12.size
        clear BW X0 X1 OW X5 X6 TM BL DA X7 DB X9 RX RY
        have BW := Lib.hid tBW
        have X0 := Lib.hid tX0
        have X1 := Lib.hid tX1
        have OW := Lib.hid tOW
        have X5 := Lib.hid tX5
        have X6 := Lib.hid tX6
        have TM := Lib.hid tTM
        have BL := Lib.hid tBL
        have DA := Lib.hid tDA
        have X7 := Lib.hid tX7
        have DB := Lib.hid tDB
        have X9 := Lib.hid tX9
        have RX := Lib.hid tRX
        have RY := Lib.hid tRY
        clear tBW tX0 tX1 tOW tX5 tX6 tTM tBL tDA tX7 tDB tX9 tRX tRY b12
        obtain ⟨k0, k1⟩ := cell2_of X0.out
        obtain ⟨m0, m1⟩ := cell2_of X1.out
        go_wp2_with fail
        refine (rnext6_any _ ss ws g hg w12 ((H.out.below BW.out).more BW.out.size)).mono ?_
        rintro e w13 ⟨rfl, b13⟩
        clear k0 k1 m0 m1
        have tBW := BW.out.trans (b13.mono BW.out.size)
        have tX0 := (b13.block _ (heap_lt X0.out)).trans X0.out
        have tX1 := (b13.block _ (heap_lt X1.out)).trans X1.out
        have tOW := OW.out.below b13
        have tX5 := (b13.block _ (heap_lt X5.out)).trans X5.out
        have tX6 := (b13.block _ (heap_lt X6.out)).trans X6.out
        have tTM := (TM.out.below b13).more b13.size
        have tBL := BL.out.trans (b13.mono BL.out.size)
        have tDA := DA.out.below b13
        have tX7 := (b13.block _ (heap_lt X7.out)).trans X7.out
        have tDB := DB.out.below b13
        have tX9 := (b13.block _ (heap_lt X9.out)).trans X9.out
        have tRX := RX.out.below b13
        have tRY := (RY.out.below b13).more b13.size
        clear BW X0 X1 OW X5 X6 TM BL DA X7 DB X9 RX RY
        have BW := Lib.hid tBW
        have X0 := Lib.hid tX0
        have X1 := Lib.hid tX1
        have OW := Lib.hid tOW
        have X5 := Lib.hid tX5
        have X6 := Lib.hid tX6
        have TM := Lib.hid tTM
        have BL := Lib.hid tBL
        have DA := Lib.hid tDA
        have X7 := Lib.hid tX7
        have DB := Lib.hid tDB
        have X9 := Lib.hid tX9
        have RX := Lib.hid tRX
        have RY := Lib.hid tRY
        clear tBW tX0 tX1 tOW tX5 tX6 tTM tBL tDA tX7 tDB tX9 tRX tRY b13
        have QD := Lib.hid (Below.refl w13.heap.size w13).drew
        go_wp2_with fail
        refine wp_region_held_drew (S := fun v => Below w13.heap.size w13 v) (by kernel_rfl) QD.out (fun hHeld => ?_)
        refine wpAnyH_take (i := 0) (v := ?_) rfl (by kernel_rfl) (by kernel_rfl) (by kernel_rfl) (fun _ _ _ h => h) (Or.inl ⟨by rfl, ?_⟩) hHeld ?_
        rotate_left
        · intro w' hSw; go_simp; try with_reducible rfl
        simp only [List.getElem_toArray, List.getElem_cons_succ, List.getElem_cons_zero, Act.put, List.setIfInBounds_toArray, List.set_cons_zero, List.set_cons_succ]
        refine wpAnyH_take (i := 1) (v := ?_) rfl (by kernel_rfl) (by kernel_rfl) (by kernel_rfl) (fun _ _ _ h => h) (Or.inl ⟨by rfl, ?_⟩) hHeld ?_
        rotate_left
        · intro w' hSw; go_simp; try with_reducible rfl
        simp only [List.getElem_toArray, List.getElem_cons_succ, List.getElem_cons_zero, Act.put, List.setIfInBounds_toArray, List.set_cons_zero, List.set_cons_succ]
        refine wpAnyH_take (i := 2) (v := ?_) rfl (by kernel_rfl) (by kernel_rfl) (by kernel_rfl) (fun _ _ _ h => h) (Or.inl ⟨by rfl, ?_⟩) hHeld ?_
        rotate_left
        · intro w' hSw; go_simp; try with_reducible rfl
        simp only [List.getElem_toArray, List.getElem_cons_succ, List.getElem_cons_zero, Act.put, List.setIfInBounds_toArray, List.set_cons_zero, List.set_cons_succ]
        refine wpAnyH_take (i := 3) (v := ?_) rfl (by kernel_rfl) (by kernel_rfl) (by kernel_rfl) (fun _ _ _ h => h) (Or.inl ⟨by rfl, ?_⟩) hHeld ?_
        rotate_left
        · intro w' hSw; go_simp; try with_reducible rfl
        simp only [List.getElem_toArray, List.getElem_cons_succ, List.getElem_cons_zero, Act.put, List.setIfInBounds_toArray, List.set_cons_zero, List.set_cons_succ]
        refine wpAnyH_take (i := 4) (v := ?_) rfl (by kernel_rfl) (by kernel_rfl) (by kernel_rfl) (fun _ _ _ h => h) (Or.inl ⟨by rfl, ?_⟩) hHeld ?_
        rotate_left
        · intro w' hSw; go_simp; try with_reducible rfl
        simp only [List.getElem_toArray, List.getElem_cons_succ, List.getElem_cons_zero, Act.put, List.setIfInBounds_toArray, List.set_cons_zero, List.set_cons_succ]
        refine wpAnyH_take (i := 5) (v := ?_) rfl (by kernel_rfl) (by kernel_rfl) (by kernel_rfl) (fun _ _ _ h => h) (Or.inl ⟨by rfl, ?_⟩) hHeld ?_
        rotate_left
        · intro w' hSw; go_simp; try with_reducible rfl
        simp only [List.getElem_toArray, List.getElem_cons_succ, List.getElem_cons_zero, Act.put, List.setIfInBounds_toArray, List.set_cons_zero, List.set_cons_succ]
        refine wpAnyH_take (i := 6) (v := ?_) rfl (by kernel_rfl) (by kernel_rfl) (by kernel_rfl) (fun _ _ _ h => h) (Or.inl ⟨by rfl, ?_⟩) hHeld ?_
        rotate_left
        · intro w' hSw; go_simp; try with_reducible rfl
        simp only [List.getElem_toArray, List.getElem_cons_succ, List.getElem_cons_zero, Act.put, List.setIfInBounds_toArray, List.set_cons_zero, List.set_cons_succ]
        refine wpAnyH_take (i := 7) (v := ?_) rfl (by kernel_rfl) (by kernel_rfl) (by kernel_rfl) (fun _ _ _ h => h) (Or.inl ⟨by rfl, ?_⟩) hHeld ?_
        rotate_left
        · intro w' hSw; go_simp; try with_reducible rfl
        simp only [List.getElem_toArray, List.getElem_cons_succ, List.getElem_cons_zero, Act.put, List.setIfInBounds_toArray, List.set_cons_zero, List.set_cons_succ]
        refine wpAnyH_take (i := 8) (v := ?_) rfl (by kernel_rfl) (by kernel_rfl) (by kernel_rfl) (fun _ _ _ h => h) (Or.inl ⟨by rfl, ?_⟩) hHeld ?_
        rotate_left
        · intro w' hSw; go_simp; try with_reducible rfl
        simp only [List.getElem_toArray, List.getElem_cons_succ, List.getElem_cons_zero, Act.put, List.setIfInBounds_toArray, List.set_cons_zero, List.set_cons_succ]
        refine wpAnyH_take (i := 9) (v := ?_) rfl (by kernel_rfl) (by kernel_rfl) (by kernel_rfl) (fun _ _ _ h => h) (Or.inl ⟨by rfl, ?_⟩) hHeld ?_
        rotate_left
        · intro w' hSw; obtain ⟨ca0, ca1⟩ := cell2_of ((hSw.block _ (heap_lt X7.out)).trans X7.out); go_simp; try with_reducible rfl
        simp only [List.getElem_toArray, List.getElem_cons_succ, List.getElem_cons_zero, Act.put, List.setIfInBounds_toArray, List.set_cons_zero, List.set_cons_succ]
        refine wpAnyH_take (i := 10) (v := ?_) rfl (by kernel_rfl) (by kernel_rfl) (by kernel_rfl) (fun _ _ _ h => h) (Or.inl ⟨by rfl, ?_⟩) hHeld ?_
        rotate_left
        · intro w' hSw; obtain ⟨cb0, cb1⟩ := cell2_of ((hSw.block _ (heap_lt X9.out)).trans X9.out); go_simp; try with_reducible rfl
        simp only [List.getElem_toArray, List.getElem_cons_succ, List.getElem_cons_zero, Act.put, List.setIfInBounds_toArray, List.set_cons_zero, List.set_cons_succ]
        refine wpAnyH_ready (rs := [11]) (by kernel_rfl) (by simp) ?_
        refine AllReadyH.cons rfl (fun K hK => ?_) AllReadyH.nil
        go_simp
        refine (rsame_any _ _ S' S' W' W' w13.drew (DA.out.below QD.out).in_ (DB.out.below QD.out).in_ PT.out PT.out).mono ?_
        rintro e wA ⟨rfl, bA⟩
        rw [sameT_self]
        have BA := Lib.hid (QD.out.trans bA)
        clear bA
        try go_wp2_with fail
        refine hK.out _ _ ?_ (fun hHeld => ?_)
        · exact BA.out
        clear hK K
        try simp only [List.getElem_toArray, List.getElem_cons_succ, List.getElem_cons_zero, Act.put, List.setIfInBounds_toArray, List.set_cons_zero, List.set_cons_succ]
        refine wpAnyH_take (i := 12) (v := ?_) rfl (by kernel_rfl) (by kernel_rfl) (by kernel_rfl) (fun _ _ _ h => h) (Or.inl ⟨by rfl, ?_⟩) hHeld ?_
        rotate_left
        · intro w' hSw; go_simp; try with_reducible rfl
        simp only [List.getElem_toArray, List.getElem_cons_succ, List.getElem_cons_zero, Act.put, List.setIfInBounds_toArray, List.set_cons_zero, List.set_cons_succ]
        refine wpAnyH_take (i := 13) (v := ?_) rfl (by kernel_rfl) (by kernel_rfl) (by kernel_rfl) (fun _ _ _ h => h) (Or.inl ⟨by rfl, ?_⟩) hHeld ?_
        rotate_left
        · intro w' hSw; go_simp; try with_reducible rfl
        simp only [List.getElem_toArray, List.getElem_cons_succ, List.getElem_cons_zero, Act.put, List.setIfInBounds_toArray, List.set_cons_zero, List.set_cons_succ]
        refine wpAnyH_take (i := 14) (v := ?_) rfl (by kernel_rfl) (by kernel_rfl) (by kernel_rfl) (fun _ _ _ h => h) (Or.inl ⟨by rfl, ?_⟩) hHeld ?_
        rotate_left
        · intro w' hSw; go_simp; try with_reducible rfl
        simp only [List.getElem_toArray, List.getElem_cons_succ, List.getElem_cons_zero, Act.put, List.setIfInBounds_toArray, List.set_cons_zero, List.set_cons_succ]
        refine wpAnyH_take (i := 15) (v := ?_) rfl (by kernel_rfl) (by kernel_rfl) (by kernel_rfl) (fun _ _ _ h => h) (Or.inl ⟨by rfl, ?_⟩) hHeld ?_
        rotate_left
        · intro w' hSw; go_simp; try with_reducible rfl
        simp only [List.getElem_toArray, List.getElem_cons_succ, List.getElem_cons_zero, Act.put, List.setIfInBounds_toArray, List.set_cons_zero, List.set_cons_succ]
        refine wpAnyH_take (i := 16) (v := ?_) rfl (by kernel_rfl) (by kernel_rfl) (by kernel_rfl) (fun _ _ _ h => h) (Or.inl ⟨by rfl, ?_⟩) hHeld ?_
        rotate_left
        · intro w' hSw; go_simp; try with_reducible rfl
        simp only [List.getElem_toArray, List.getElem_cons_succ, List.getElem_cons_zero, Act.put, List.setIfInBounds_toArray, List.set_cons_zero, List.set_cons_succ]
        refine wpAnyH_take (i := 17) (v := ?_) rfl (by kernel_rfl) (by kernel_rfl) (by kernel_rfl) (fun _ _ _ h => h) (Or.inl ⟨by rfl, ?_⟩) hHeld ?_
        rotate_left
        · intro w' hSw; go_simp; try with_reducible rfl
        simp only [List.getElem_toArray, List.getElem_cons_succ, List.getElem_cons_zero, Act.put, List.setIfInBounds_toArray, List.set_cons_zero, List.set_cons_succ]
        refine wpAnyH_take (i := 18) (v := ?_) rfl (by kernel_rfl) (by kernel_rfl) (by kernel_rfl) (fun _ _ _ h => h) (Or.inl ⟨by rfl, ?_⟩) hHeld ?_
        rotate_left
        · intro w' hSw; go_simp; try with_reducible rfl
        simp only [List.getElem_toArray, List.getElem_cons_succ, List.getElem_cons_zero, Act.put, List.setIfInBounds_toArray, List.set_cons_zero, List.set_cons_succ]
        refine wpAnyH_take (i := 19) (v := ?_) rfl (by kernel_rfl) (by kernel_rfl) (by kernel_rfl) (fun _ _ _ h => h) (Or.inl ⟨by rfl, ?_⟩) hHeld ?_
        rotate_left
        · intro w' hSw; go_simp; try with_reducible rfl
        simp only [List.getElem_toArray, List.getElem_cons_succ, List.getElem_cons_zero, Act.put, List.setIfInBounds_toArray, List.set_cons_zero, List.set_cons_succ]
        refine wpAnyH_take (i := 20) (v := ?_) rfl (by kernel_rfl) (by kernel_rfl) (by kernel_rfl) (fun _ _ _ h => h) (Or.inl ⟨by rfl, ?_⟩) hHeld ?_
        rotate_left
        · intro w' hSw; go_simp; try with_reducible rfl
        simp only [List.getElem_toArray, List.getElem_cons_succ, List.getElem_cons_zero, Act.put, List.setIfInBounds_toArray, List.set_cons_zero, List.set_cons_succ]
        refine wpAnyH_take (i := 21) (v := ?_) rfl (by kernel_rfl) (by kernel_rfl) (by kernel_rfl) (fun _ _ _ h => h) (Or.inl ⟨by rfl, ?_⟩) hHeld ?_
        rotate_left
        · intro w' hSw; go_simp; try with_reducible rfl
        simp only [List.getElem_toArray, List.getElem_cons_succ, List.getElem_cons_zero, Act.put, List.setIfInBounds_toArray, List.set_cons_zero, List.set_cons_succ]
        refine wpAnyH_ready (rs := [22]) (by kernel_rfl) (by simp) ?_
        refine AllReadyH.cons rfl (fun K hK => ?_) AllReadyH.nil
        go_simp
        refine (rsame6_any _ _ (findR ss ws) wA (RX.out.below BA.out).in_ ((RY.out.below BA.out).more BA.out.size) (by have := findR_len ss ws; omega)).mono ?_
        rintro e wB ⟨rfl, bB⟩
        have BB := Lib.hid (BA.out.trans (bB.mono BA.out.size))
        clear bB
        try go_wp2_with fail
        refine hK.out _ _ ?_ (fun hHeld => ?_)
        · exact BB.out
        clear hK K
        try simp only [List.getElem_toArray, List.getElem_cons_succ, List.getElem_cons_zero, Act.put, List.setIfInBounds_toArray, List.set_cons_zero, List.set_cons_succ]
        refine wpAnyH_take (i := 23) (v := ?_) rfl (by kernel_rfl) (by kernel_rfl) (by kernel_rfl) (fun _ _ _ h => h) (Or.inl ⟨by rfl, ?_⟩) hHeld ?_
        rotate_left
        · intro w' hSw; go_simp; try with_reducible rfl
        simp only [List.getElem_toArray, List.getElem_cons_succ, List.getElem_cons_zero, Act.put, List.setIfInBounds_toArray, List.set_cons_zero, List.set_cons_succ]
        refine wpAnyH_take (i := 24) (v := ?_) rfl (by kernel_rfl) (by kernel_rfl) (by kernel_rfl) (fun _ _ _ h => h) (Or.inl ⟨by rfl, ?_⟩) hHeld ?_
        rotate_left
        · intro w' hSw; go_simp; try with_reducible rfl
        simp only [List.getElem_toArray, List.getElem_cons_succ, List.getElem_cons_zero, Act.put, List.setIfInBounds_toArray, List.set_cons_zero, List.set_cons_succ]
        refine wpAnyH_take (i := 25) (v := ?_) rfl (by kernel_rfl) (by kernel_rfl) (by kernel_rfl) (fun _ _ _ h => h) (Or.inl ⟨by rfl, ?_⟩) hHeld ?_
        rotate_left
        · intro w' hSw; go_simp; try with_reducible rfl
        simp only [List.getElem_toArray, List.getElem_cons_succ, List.getElem_cons_zero, Act.put, List.setIfInBounds_toArray, List.set_cons_zero, List.set_cons_succ]
        refine wpAnyH_take (i := 26) (v := ?_) rfl (by kernel_rfl) (by kernel_rfl) (by kernel_rfl) (fun _ _ _ h => h) (Or.inl ⟨by rfl, ?_⟩) hHeld ?_
        rotate_left
        · intro w' hSw; go_simp; try with_reducible rfl
        simp only [List.getElem_toArray, List.getElem_cons_succ, List.getElem_cons_zero, Act.put, List.setIfInBounds_toArray, List.set_cons_zero, List.set_cons_succ]
        refine wpAnyH_take (i := 27) (v := ?_) rfl (by kernel_rfl) (by kernel_rfl) (by kernel_rfl) (fun _ _ _ h => h) (Or.inl ⟨by rfl, ?_⟩) hHeld ?_
        rotate_left
        · intro w' hSw; go_simp; try with_reducible rfl
        simp only [List.getElem_toArray, List.getElem_cons_succ, List.getElem_cons_zero, Act.put, List.setIfInBounds_toArray, List.set_cons_zero, List.set_cons_succ]
        refine wpAnyH_take (i := 28) (v := ?_) rfl (by kernel_rfl) (by kernel_rfl) (by kernel_rfl) (fun _ _ _ h => h) (Or.inl ⟨by rfl, ?_⟩) hHeld ?_
        rotate_left
        · intro w' hSw; go_simp; try with_reducible rfl
        simp only [List.getElem_toArray, List.getElem_cons_succ, List.getElem_cons_zero, Act.put, List.setIfInBounds_toArray, List.set_cons_zero, List.set_cons_succ]
        refine wpAnyH_take (i := 29) (v := ?_) rfl (by kernel_rfl) (by kernel_rfl) (by kernel_rfl) (fun _ _ _ h => h) (Or.inl ⟨by rfl, ?_⟩) hHeld ?_
        rotate_left
        · intro w' hSw; go_simp; try with_reducible rfl
        simp only [List.getElem_toArray, List.getElem_cons_succ, List.getElem_cons_zero, Act.put, List.setIfInBounds_toArray, List.set_cons_zero, List.set_cons_succ]
        refine wpAnyH_take (i := 30) (v := ?_) rfl (by kernel_rfl) (by kernel_rfl) (by kernel_rfl) (fun _ _ _ h => h) (Or.inl ⟨by rfl, ?_⟩) hHeld ?_
        rotate_left
        · intro w' hSw; go_simp; try with_reducible rfl
        simp only [List.getElem_toArray, List.getElem_cons_succ, List.getElem_cons_zero, Act.put, List.setIfInBounds_toArray, List.set_cons_zero, List.set_cons_succ]
        refine wpAnyH_take (i := 31) (v := ?_) rfl (by kernel_rfl) (by kernel_rfl) (by kernel_rfl) (fun _ _ _ h => h) (Or.inl ⟨by rfl, ?_⟩) hHeld ?_
        rotate_left
        · intro w' hSw; go_simp; try with_reducible rfl
        simp only [List.getElem_toArray, List.getElem_cons_succ, List.getElem_cons_zero, Act.put, List.setIfInBounds_toArray, List.set_cons_zero, List.set_cons_succ]
        refine wpAnyH_take (i := 32) (v := ?_) rfl (by kernel_rfl) (by kernel_rfl) (by kernel_rfl) (fun _ _ _ h => h) (Or.inl ⟨by rfl, ?_⟩) hHeld ?_
        rotate_left
        · intro w' hSw; obtain ⟨cv0, cv1⟩ := cell2_of ((hSw.block _ (heap_lt X1.out)).trans X1.out); go_simp; try with_reducible rfl
        simp only [List.getElem_toArray, List.getElem_cons_succ, List.getElem_cons_zero, Act.put, List.setIfInBounds_toArray, List.set_cons_zero, List.set_cons_succ]
        refine wpAnyH_take (i := 34) (v := ?_) rfl (by kernel_rfl) (by kernel_rfl) (by kernel_rfl) (fun _ _ _ h => h) (Or.inl ⟨by rfl, ?_⟩) hHeld ?_
        rotate_left
        · intro w' hSw; go_simp; try with_reducible rfl
        simp only [List.getElem_toArray, List.getElem_cons_succ, List.getElem_cons_zero, Act.put, List.setIfInBounds_toArray, List.set_cons_zero, List.set_cons_succ]
        refine wpAnyH_take (i := 35) (v := ?_) rfl (by kernel_rfl) (by kernel_rfl) (by kernel_rfl) (fun _ _ _ h => h) (Or.inl ⟨by rfl, ?_⟩) hHeld ?_
        rotate_left
        · intro w' hSw; obtain ⟨cv0, cv1⟩ := cell2_of ((hSw.block _ (heap_lt X1.out)).trans X1.out); go_simp; try with_reducible rfl
        simp only [List.getElem_toArray, List.getElem_cons_succ, List.getElem_cons_zero, Act.put, List.setIfInBounds_toArray, List.set_cons_zero, List.set_cons_succ]
        refine wpAnyH_ready (rs := [33]) (by kernel_rfl) (by simp) ?_
        refine AllReadyH.cons rfl (fun K hK => ?_) AllReadyH.nil
        go_simp
        refine (sslot_any g _).mono ?_
        rintro e wS ⟨rfl, rfl⟩
        try go_wp2_with fail
        refine hK.out _ _ ?_ (fun hHeld => ?_)
        · exact BB.out
        clear hK K
        try simp only [List.getElem_toArray, List.getElem_cons_succ, List.getElem_cons_zero, Act.put, List.setIfInBounds_toArray, List.set_cons_zero, List.set_cons_succ]
        refine wpAnyH_ready (rs := [36]) (by kernel_rfl) (by simp) ?_
        refine AllReadyH.cons rfl (fun K hK => ?_) AllReadyH.nil
        go_simp
        refine (rslot_any g _).mono ?_
        rintro e wS ⟨rfl, rfl⟩
        try go_wp2_with fail
        refine hK.out _ _ ?_ (fun hHeld => ?_)
        · exact BB.out
        clear hK K
        try simp only [List.getElem_toArray, List.getElem_cons_succ, List.getElem_cons_zero, Act.put, List.setIfInBounds_toArray, List.set_cons_zero, List.set_cons_succ]
        refine wpAnyH_take (i := 37) (v := ?_) rfl (by kernel_rfl) (by kernel_rfl) (by kernel_rfl) (fun _ _ _ h => h) (Or.inl ⟨by rfl, ?_⟩) hHeld ?_
        rotate_left
        · intro w' hSw; go_simp; try with_reducible rfl
        simp only [List.getElem_toArray, List.getElem_cons_succ, List.getElem_cons_zero, Act.put, List.setIfInBounds_toArray, List.set_cons_zero, List.set_cons_succ]
        refine wpAnyH_take (i := 38) (v := ?_) rfl (by kernel_rfl) (by kernel_rfl) (by kernel_rfl) (fun _ _ _ h => h) (Or.inl ⟨by rfl, ?_⟩) hHeld ?_
        rotate_left
        · intro w' hSw; go_simp; try with_reducible rfl
        simp only [List.getElem_toArray, List.getElem_cons_succ, List.getElem_cons_zero, Act.put, List.setIfInBounds_toArray, List.set_cons_zero, List.set_cons_succ]
        refine wpAnyH_done (by kernel_rfl) ?_ _
        have tBW := BW.out.trans (BB.out.mono BW.out.size)
        have tX0 := (BB.out.block _ (heap_lt X0.out)).trans X0.out
        have tX1 := (BB.out.block _ (heap_lt X1.out)).trans X1.out
        have tOW := OW.out.below BB.out
        have tX5 := (BB.out.block _ (heap_lt X5.out)).trans X5.out
        have tX6 := (BB.out.block _ (heap_lt X6.out)).trans X6.out
        have tTM := (TM.out.below BB.out).more BB.out.size
        have tBL := BL.out.trans (BB.out.mono BL.out.size)
        have tDA := DA.out.below BB.out
        have tX7 := (BB.out.block _ (heap_lt X7.out)).trans X7.out
        have tDB := DB.out.below BB.out
        have tX9 := (BB.out.block _ (heap_lt X9.out)).trans X9.out
        have tRX := RX.out.below BB.out
        have tRY := (RY.out.below BB.out).more BB.out.size
        clear BW X0 X1 OW X5 X6 TM BL DA X7 DB X9 RX RY
        have BW := Lib.hid tBW
        have X0 := Lib.hid tX0
        have X1 := Lib.hid tX1
        have OW := Lib.hid tOW
        have X5 := Lib.hid tX5
        have X6 := Lib.hid tX6
        have TM := Lib.hid tTM
        have BL := Lib.hid tBL
        have DA := Lib.hid tDA
        have X7 := Lib.hid tX7
        have DB := Lib.hid tDB
        have X9 := Lib.hid tX9
        have RX := Lib.hid tRX
        have RY := Lib.hid tRY
        clear tBW tX0 tX1 tOW tX5 tX6 tTM tBL tDA tX7 tDB tX9 tRX tRY
        have LA : Hid (LSh 52 wB w6.heap.size n8 A8 (fun _ => 128)) := Lib.hid (by
          obtain ⟨y1, y2, e, _, hw⟩ := DA.out
          injection e with e
          injection e with e1
          injection e1 with e2 e3
          injection e3 with e4 e5
          rw [← e4] at hw
          exact hw.sh P128.out)
        have LX := Lib.hid (RX.out.sh.mono L10.out)
        have hn8 : n8 ≤ 100000 := by rw [HN8.out]; exact PT.out.m
        have hn11 : n11 ≤ 2 := by rw [HN11.out]; exact findR_len ss ws
        generalize lensR (findR ss ws) = LR at LX
        have L7' := Lib.hid L7.out
        have Z7 := Lib.hid X7.out
        have ZL := Lib.hid BL.out
        clear X0 X1 X5 X6 OW TM BL BW X7 X9 DA DB RX RY BA BB QD HE HS' HW' PT P128 HN8 HN11 L10 L7
        go_wp2_with fail
        go_loopw [19] (fun s19 wr => ∃ i : Nat, i ≤ n8 ∧ s19 = .int .i64 i ∧ LSh 52 wr w6.heap.size n8 A8 (fun _ => 128) ∧ LSh 36 wr w6.heap.size n11 A11 LR ∧ wr.heap[p7]? = some (.cells #[.slice A7 n7 c7, .slice A8 n8 c8] 29 (0, 0)) ∧ Below w6.heap.size w6 wr) (fun s19 _ => n8 - (intOf s19).toNat)
        case atStart => exact ⟨0, by omega, by go_num, LA.out, LX.out, Z7.out, ZL.out⟩
        case round =>
          obtain ⟨i, hi, rfl, hla, hlx, hx7, hbl⟩ := hrel
          clear LA LX Z7 ZL
          have LA := Lib.hid hla
          have LX := Lib.hid hlx
          have X7 := Lib.hid hx7
          have BL := Lib.hid hbl
          clear hla hlx hx7 hbl
          by_cases hlt : i < n8
          · have hlt' : (i : Int) < n8 := by omega
            obtain ⟨bw, uw, rfl, hcw, hts⟩ := LA.out.at hlt
            obtain ⟨bu, off, cap, cs, x, rfl, hlo, hhu, hcap, hmx, hby, hfz⟩ := hts.cell (j := 9) (by omega)
            obtain ⟨y, hy⟩ : ∃ y : UInt8, y = x + 1 := ⟨_, rfl⟩
            have hx8 := UInt8.toNat_lt x
            have hyn : y.toNat = (x.toNat + 1) % 256 := by rw [hy, UInt8.toNat_add]; rfl
            have hy1 : ((x.toNat : Int) + 1) % 256 = (y.toNat : Int) := by omega
            have hy2 : IntKind.u8.wrap ((x.toNat : Int) + 1) = (y.toNat : Int) := by simp [IntKind.wrap, IntKind.bits, IntKind.signed]; omega
            obtain ⟨u, hu⟩ : ∃ u, u = World.drew wr := ⟨_, rfl⟩
            obtain ⟨k0, k1⟩ := cell2_of X7.out
            have hu7 : u.heap[p7]? = some (.cells #[.slice A7 n7 c7, .slice (some ⟨bw, 0, none⟩) n8 c8] 29 (0, 0)) := by rw [hu]; exact X7.out
            have hcw' : u.cell? ⟨bw, i * 2 + 1, none⟩ = some (.slice (some ⟨bu, off, none⟩) 128 cap) := by rw [hu]; exact hcw
            have hby' : u.cell? ⟨bu, off + 9, none⟩ = some (.int .u8 (x.toNat : Int)) := by rw [hu]; exact hby
            have hfz' : u.frozen? ⟨bu, off + 9, none⟩ = false := by rw [hu]; exact hfz
            have hhu' : u.heap[bu]? = some (.cells cs 5 (0, 0)) := by rw [hu]; exact hhu
            have LA2 : Hid (LSh 52 u w6.heap.size n8 (some ⟨bw, 0, none⟩) (fun _ => 128)) := Lib.hid (by rw [hu]; exact LA.out.below (Below.refl _ wr).drew)
            have LX2 : Hid (LSh 36 u w6.heap.size n11 A11 LR) := Lib.hid (by rw [hu]; exact LX.out.below (Below.refl _ wr).drew)
            have BL2 : Hid (Below w6.heap.size w6 u) := Lib.hid (by rw [hu]; exact BL.out.drew)
            have HU7 := Lib.hid hu7
            have HHU := Lib.hid hhu'
            have HLO := Lib.hid hlo
            clear hhu hhu' hby hfz hcw hts hy hyn hlo hmx hlt
            go_wp2_with fail
            refine wp_region_still_tail 16 (by kernel_rfl) (by kernel_rfl) ?_
            change wpStill _ _ (World.drew wr) (fun a' => wpList _ _ _ _ a' (World.drew wr)) _ _
            rw [← hu]
            clear hu k0 k1
            obtain ⟨m0, m1⟩ := cell2_of hu7
            clear hu7
            simp only [List.take_succ_cons, List.take_zero, List.drop_succ_cons, List.drop_zero]
            repeat still_step
            refine wpStill_nil ?_
            go_wp2_with fail
            have LA3 := Lib.hid (LA2.out.set (k := off + 9) (y := y) (by decide) HHU.out)
            have LX3 := Lib.hid (LX2.out.set (k := off + 9) (y := y) (by decide) HHU.out)
            have X73 := Lib.hid (box_setFar (k := off + 9) (v := .int .u8 (y.toNat : Int)) (by decide) HU7.out HHU.out)
            have BL3 := Lib.hid (below_set BL2.out HLO.out (off + 9) (.int .u8 (y.toNat : Int)))
            go_roundw
            case measure => simp [intOf]; omega
            case rel => exact ⟨i + 1, by omega, by go_num, LA3.out, LX3.out, X73.out, BL3.out⟩
          · obtain rfl : i = n8 := by omega
            have hlt' : ¬ (i : Int) < i := by omega
            obtain ⟨k0, k1⟩ := cell2_of X7.out
            clear LA hlt
            go_wp2_with fail
            clear k0 k1
            go_loopw [20] (fun s20 wr => ∃ j : Nat, j ≤ n11 ∧ s20 = .int .i64 j ∧ LSh 36 wr w6.heap.size n11 A11 LR ∧ Below w6.heap.size w6 wr) (fun s20 _ => n11 - (intOf s20).toNat)
            case atStart => exact ⟨0, by omega, by go_num, LX.out, BL.out⟩
            case round =>
              obtain ⟨j, hj, rfl, hlx, hbl⟩ := hrel
              clear LX BL X7
              have LX := Lib.hid hlx
              have BL := Lib.hid hbl
              clear hlx hbl
              by_cases hlt : j < n11
              · have hlt' : (j : Int) < n11 := by omega
                go_wp2_with fail
                go_loopw [21] (fun s21 wr => ∃ k : Nat, k ≤ LR j ∧ s21 = .int .i64 k ∧ LSh 36 wr w6.heap.size n11 A11 LR ∧ Below w6.heap.size w6 wr) (fun s21 _ => LR j - (intOf s21).toNat)
                case atStart => exact ⟨0, by omega, by go_num, LX.out, BL.out⟩
                case round =>
                  obtain ⟨k, hk, rfl, hlx, hbl⟩ := hrel
                  clear LX BL
                  have LX := Lib.hid hlx
                  have BL := Lib.hid hbl
                  clear hlx hbl
                  obtain ⟨bx, ux, rfl, hcx, hts⟩ := LX.out.at hlt
                  by_cases hkl : k < LR j
                  · obtain ⟨bu, off, cap, cs, x, rfl, hlo, hhu, hcap, hmx, hby, hfz⟩ := hts.cell hkl
                    have hmx2 : cap ≤ 9223372036854775807 := by unfold maxLen at hmx; omega
                    obtain ⟨n, hn⟩ : ∃ n, n = LR j := ⟨_, rfl⟩
                    have HLR := Lib.hid hn
                    rw [← hn] at hk hkl hcx hcap ⊢
                    have hkl' : (k : Int) < n := by omega
                    have hnl : (n : Int) ≤ 9223372036854775807 := by omega
                    have LX3 := Lib.hid (LX.out.set (k := off + k) (y := 0) (by decide) hhu)
                    have BL3 := Lib.hid (below_set BL.out hlo (off + k) (.int .u8 ((0 : UInt8).toNat : Int)))
                    clear hts hlo hhu hmx hn
                    go_wp2_with fail
                    go_roundw
                    case measure => simp [intOf]; omega
                    case rel => exact ⟨k + 1, by omega, by go_num, LX3.out, BL3.out⟩
                  · obtain rfl : k = LR j := by omega
                    obtain ⟨bu, off, cap, cs, rfl, hlo, hhu, hcap, hmx, -⟩ := hts
                    have hmx2 : cap ≤ 9223372036854775807 := by unfold maxLen at hmx; omega
                    have hlt2 : ¬ ((LR j : Nat) : Int) < (LR j : Nat) := by omega
                    clear hlo hhu hmx hkl
                    go_wp2_with fail
                    go_roundw
                    case measure => simp [intOf]; omega
                    case rel => exact ⟨j + 1, by omega, by go_num, LX.out, BL.out⟩
              · obtain rfl : j = n11 := by omega
                have hlt' : ¬ (j : Int) < j := by omega
                have Z0 := Lib.hid ((BL.out.block _ (heap_lt Y0.out)).trans Y0.out)
                have Z1 := Lib.hid ((BL.out.block _ (heap_lt Y1.out)).trans Y1.out)
                have Z5 := Lib.hid ((BL.out.block _ (heap_lt Y5.out)).trans Y5.out)
                have Z6 := Lib.hid ((BL.out.block _ (heap_lt Y6.out)).trans Y6.out)
                have ZW := Lib.hid (YB.out.trans (BL.out.mono YB.out.size))
                have ZO := Lib.hid (YO.out.below BL.out)
                have ZT := Lib.hid ((YT.out.below BL.out).more BL.out.size)
                clear LX hlt
                obtain ⟨k0, k1⟩ := cell2_of Z5.out
                obtain ⟨m0, m1⟩ := cell2_of Z0.out
                go_wp2_with fail
                refine (rsame_any _ _ ss ss ws ws wr ZO.out.in_ ((H.out.below ZW.out).more ZW.out.size) (SM.out.tells HR47.out) (SM.out.tells HR47.out)).mono ?_
                rintro e wE ⟨rfl, bE⟩
                rw [sameT_self]
                have BE := Lib.hid (ZW.out.trans (bE.mono ZW.out.size))
                have E1 := Lib.hid ((bE.block _ (heap_lt Z1.out)).trans Z1.out)
                have E6 := Lib.hid ((bE.block _ (heap_lt Z6.out)).trans Z6.out)
                have cs1 := run_txt_string (ZT.out.below bE)
                have cs2 := run_txt_string (HT.out.below BE.out)
                clear k0 k1 m0 m1
                obtain ⟨k0, k1⟩ := cell2_of E6.out
                obtain ⟨m0, m1⟩ := cell2_of E1.out
                go_wp2_with fail
                go_ret
                exact ⟨rfl, BE.out⟩
theorem walk_does_rec (d y : Value) (ss : List Bs) (ws : List Wr) (g : Nat) (t : Bs) (hg : g < 4294967296) (hr : Reach47 ss ws) (w : World) (h : DiskIn w w.heap.size d ss ws) (h1 : RcIn w w.heap.size y (g, t)) :
    Calls Try.prog 4 #[d, y] w fun e w' => e = .returned (.bool true) ∧ Below w.heap.size w w' := by
  obtain ⟨u, rfl, ht⟩ := h1
  exact walk_does d u ss ws g t hg hr w h ht
end Go.Proofs.Ytdjoflhcagfmiaa
