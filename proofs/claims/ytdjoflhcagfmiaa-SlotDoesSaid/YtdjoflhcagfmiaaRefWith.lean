/-
  The document's own functions: With.
  Conditions: none.
-/
import Derived.Test.YtdjoflhcagfmiaaRefTwin
import Derived.Test.YtdjoflhcagfmiaaMRef
set_option linter.unusedVariables false
set_option linter.unusedSimpArgs false
set_option maxRecDepth 100000
namespace Go.Proofs.Ytdjoflhcagfmiaa
open Go.RowKit

theorem box_wtsT {W w1 w5 : World} {B p lo lo' : Nat} {v1 v v5 y : Value} {ss : List Bs} {x : Wr} {ws : List Wr} {ys : List Value} {o : Obj} (hB : B ≤ lo) (hBp : B ≤ p) (hc : W.heap[p]? = some (.cells #[v1, v] 29 (0, 0)))
    (ho : W.ownsRow lo 52 2 v ws.length (wcells ws ys)) (hl : ys.length = ws.length)
    (he : ∀ (j : Nat) (y : Value) (w : Wr), ys[j]? = some y → ws[j]? = some w → W.ownsRow lo 5 1 y w.2.length (w.2.map u8) ∧ w.2.length ≤ maxLen)
    (hss : SecsAt W lo' v1 ss) (hlo : lo ≤ W.heap.size) (hb1 : Below W.heap.size W w1) (hy : w1.ownsRow W.heap.size 5 1 y x.2.length (x.2.map u8)) (hs : x.2.length ≤ maxLen) (hmx : ws.length + 1 ≤ maxLen)
    (hown : w5.ownsRow lo 52 2 v5 (ws.length + 1) (wcells ws ys ++ [.int .i64 x.1, y])) (hgr : (w1.alloc o).grownBy w5 v.ownBlock) :
    w5.heap[p]? = some (.cells #[v1, v] 29 (0, 0)) ∧ (w5.setCell ⟨p, 1, none⟩ v5).heap[p]? = some (.cells #[v1, v5] 29 (0, 0)) ∧ SecsAt (w5.setCell ⟨p, 1, none⟩ v5) lo' v1 ss ∧ WtsAt (w5.setCell ⟨p, 1, none⟩ v5) lo v5 (ws ++ [x]) ∧ Below B W (w5.setCell ⟨p, 1, none⟩ v5) := by
  have hv : (w1.alloc o).ownsRow lo 52 2 v ws.length (wcells ws ys) := (owns_below ho hb1).alloc o
  have hb2 : Below W.heap.size W (w1.alloc o) := hb1.alloc hb1.size o
  have h1 : w5.heap[p]? = some (.cells #[v1, v] 29 (0, 0)) := (hgr.block p (Nat.lt_of_lt_of_le (heap_lt hc) hb2.size) (fun e => by
    obtain ⟨cur, h1, _⟩ := owns_block ho e.symm
    rw [hc] at h1
    cases h1)).trans ((hb2.block p (heap_lt hc)).trans hc)
  have hg := grown_set w5 p 1 v5
  refine ⟨h1, heap_setB h1 v5, secs_turnedRow (secs_kept ((hss.below hb1).below (below_new w1 o)) hv (by decide) (by decide) hgr) h1 (by decide) (by decide) hg, wts_turnedRow (wts_snoc ho hl he hlo hb1 hy hs hmx hown hgr) h1 (by decide) (by decide) hg, ?_⟩
  exact below_set (((hb2.mono hlo).grown hgr (Nat.le_trans hlo hb2.size) (own_ge ho)).mono hB) hBp 1 v5

set_option maxRecDepth 100000 in
set_option maxHeartbeats 4000000 in
theorem rwith_any (d bv : Value) (ss : List Bs) (ws : List Wr) (n : Int) (bs : Bs) (w : World) (h : DiskIn w w.heap.size d ss ws) (hf : Fits ss ws) (hx : Txt w w.heap.size bv bs) (hbl : bs.length ≤ 1000000) :
    Calls Try.prog 66 #[d, .int .i64 n, bv] w fun e w' => ∃ d', e = .returned d' ∧ DiskAt w' w.heap.size d' ss (ws ++ [(n, bs)]) ∧ Below w.heap.size w w' := by
  obtain ⟨v1, v2, rfl, h1, h2⟩ := id h
  obtain ⟨i1, hi, hz0, hz1, hz2⟩ := info_parts infoByte
  have J0 := Lib.hid hi
  have J1 := Lib.hid hz0
  have J2 := Lib.hid hz1
  have J3 := Lib.hid hz2
  clear hi hz0 hz1 hz2
  obtain ⟨i2, hi, hz0, hz1, hz2⟩ := info_parts infoWrite
  have L0 := Lib.hid hi
  have L1 := Lib.hid hz0
  have L2 := Lib.hid hz1
  have L3 := Lib.hid hz2
  clear hi hz0 hz1 hz2
  have H := Lib.hid h
  have HF := Lib.hid hf
  have X := Lib.hid hx
  have XL := Lib.hid hbl
  obtain ⟨A3, c3, rfl, -, -, -, -⟩ := hx
  have hq := two_boxes w (.cells #[v1, v2] 29) (.cells #[.slice none 0 0, .slice none 0 0] 29)
  have hqs : ((w.alloc (.cells #[v1, v2] 29)).alloc (.cells #[.slice none 0 0, .slice none 0 0] 29)).heap.size = w.heap.size + 2 := by simp
  clear h1 h2 h hf hbl
  go_enter Try.func66, Try.ntmps66
  go_wp2_with fail
  generalize (w.alloc (.cells #[v1, v2] 29)).alloc (.cells #[.slice none 0 0, .slice none 0 0] 29) = q at hq hqs ⊢
  obtain ⟨q0, q1, qb⟩ := hq
  have QB := Lib.hid qb
  have Q1 := Lib.hid q1
  have QS := Lib.hid hqs
  refine (rtwin_any _ ss ws q ((H.out.below QB.out).more QB.out.size) HF.out).mono ?_
  rintro e w2 ⟨y1, y2, m, rfl, hs, hw, hm1, -, b2, hmw⟩
  obtain ⟨A9, c9, rfl⟩ := secs_slice hs
  obtain ⟨ys, ho, hyl, -, he⟩ := hw
  obtain ⟨A8, c8, rfl⟩ := own_slice2_ ho
  have hq9 := heap_alloc_self w2 (.cells #[.slice A9 ss.length c9, .slice A8 ws.length c8] 29)
  have hqb := below_new w2 (.cells #[.slice A9 ss.length c9, .slice A8 ws.length c8] 29)
  clear q0 q1 qb hqs
  go_wp2_with fail
  have hQ3 := QB.out.trans ((b2.trans (hqb.mono b2.size)).mono QB.out.size)
  have hmq : m ≤ (w2.alloc (.cells #[.slice A9 ss.length c9, .slice A8 ws.length c8] 29)).heap.size := Nat.le_trans hmw hqb.size
  have hcr := ((b2.trans (hqb.mono b2.size)).block _ (heap_lt Q1.out)).trans Q1.out
  have hoq := owns_below ho hqb
  have heq : ∀ (j : Nat) (y : Value) (x : Wr), ys[j]? = some y → ws[j]? = some x → (w2.alloc (.cells #[.slice A9 ss.length c9, .slice A8 ws.length c8] 29)).ownsRow m 5 1 y x.2.length (x.2.map u8) ∧ x.2.length ≤ maxLen := fun j y x h1 h2 => ⟨owns_below (he j y x h1 h2).1 hqb, (he j y x h1 h2).2⟩
  have hsq := hs.below hqb
  obtain ⟨b9, hb9⟩ : ∃ b9, b9 = w2.heap.size := ⟨_, rfl⟩
  rw [← hb9] at hq9 hmw ⊢
  generalize w2.alloc (.cells #[.slice A9 ss.length c9, .slice A8 ws.length c8] 29) = q3 at hq9 hqb hQ3 hmq hcr hoq heq hsq ⊢
  have QB3 := Lib.hid hQ3
  have C9 := Lib.hid hq9
  have CR := Lib.hid hcr
  have O := Lib.hid hoq
  have E := Lib.hid heq
  have YL := Lib.hid hyl
  have SQ := Lib.hid hsq
  have HMQ := Lib.hid hmq
  have HM9 := Lib.hid hmw
  have HM1 := Lib.hid hm1
  obtain ⟨d0, d1⟩ := cell2_of hq9
  clear hq9 hqb hQ3 hmq hcr hoq heq hsq hs ho he hyl hb9 hmw b2 hm1
  refine wp_region_held_drew (S := fun _ => True) (by kernel_rfl) trivial (fun hHeld => ?_)
  refine wpAnyH_take (i := 0) (v := ?_) rfl (by kernel_rfl) (by kernel_rfl) (by kernel_rfl) (fun _ _ _ h => h) (Or.inl ⟨by rfl, ?_⟩) hHeld ?_
  rotate_left
  · intro w' hSw; go_simp; try with_reducible rfl
  simp only [List.getElem_toArray, List.getElem_cons_succ, List.getElem_cons_zero, Act.put, List.setIfInBounds_toArray, List.set_cons_zero, List.set_cons_succ]
  refine wpAnyH_take (i := 2) (v := ?_) rfl (by kernel_rfl) (by kernel_rfl) (by kernel_rfl) (fun _ _ _ h => h) (Or.inl ⟨by rfl, ?_⟩) hHeld ?_
  rotate_left
  · intro w' hSw; go_simp; try with_reducible rfl
  simp only [List.getElem_toArray, List.getElem_cons_succ, List.getElem_cons_zero, Act.put, List.setIfInBounds_toArray, List.set_cons_zero, List.set_cons_succ]
  refine wpAnyH_take (i := 3) (v := ?_) rfl (by kernel_rfl) (by kernel_rfl) (by kernel_rfl) (fun _ _ _ h => h) (Or.inl ⟨by rfl, ?_⟩) hHeld ?_
  rotate_left
  · intro w' hSw; go_simp; try with_reducible rfl
  simp only [List.getElem_toArray, List.getElem_cons_succ, List.getElem_cons_zero, Act.put, List.setIfInBounds_toArray, List.set_cons_zero, List.set_cons_succ]
  refine wpAnyH_ready (rs := [1, 4]) (by kernel_rfl) (by simp) ?_
  refine AllReadyH.cons rfl (fun K hK => ?_) (AllReadyH.cons rfl (fun K hK => ?_) AllReadyH.nil)
  · go_simp
    refine hK.out _ _ ?_ (fun hHeld => ?_)
    · exact trivial
    clear hK K
    try simp only [List.getElem_toArray, List.getElem_cons_succ, List.getElem_cons_zero, Act.put, List.setIfInBounds_toArray, List.set_cons_zero, List.set_cons_succ]
    refine wpAnyH_ready (rs := [4]) (by kernel_rfl) (by simp) ?_
    refine AllReadyH.cons rfl (fun K hK => ?_) AllReadyH.nil
    rw [if_pos (by rfl)]
    refine wp_append_txt (.const (.slice none 0 0)) (.tmp 13) _ rfl Try.underlying34 J0.out J1.out J2.out J3.out rfl (World.ownsRow_nil q3.drew q3.heap.size _ _) rfl (show Txt q3.drew w.heap.size _ bs from X.out.below QB3.out.drew) (by have := XL.out; omega) (Nat.le_refl _) ?_
    intro y3 wA hoy hgr3
    rw [Nat.zero_add, List.nil_append] at hoy
    obtain ⟨A7, c7, rfl⟩ := own_slice_ hoy
    have OA := Lib.hid hoy
    have BA : Hid (Below q3.heap.size q3 wA) := Lib.hid ((Below.refl _ q3).drew.grown hgr3 (Nat.le_refl _) (fun k hk => by cases hk))
    clear hoy hgr3
    try go_wp2_with fail
    refine hK.out _ _ ?_ (fun hHeld => ?_)
    · exact trivial
    clear hK K
    try simp only [List.getElem_toArray, List.getElem_cons_succ, List.getElem_cons_zero, Act.put, List.setIfInBounds_toArray, List.set_cons_zero, List.set_cons_succ]
    refine wpAnyH_take (i := 5) (v := ?_) rfl (by kernel_rfl) (by kernel_rfl) (by kernel_rfl) (fun _ _ _ h => h) (Or.inl ⟨by rfl, ?_⟩) hHeld ?_
    rotate_left
    · intro w' hSw; go_simp; try with_reducible rfl
    simp only [List.getElem_toArray, List.getElem_cons_succ, List.getElem_cons_zero, Act.put, List.setIfInBounds_toArray, List.set_cons_zero, List.set_cons_succ]
    refine wpAnyH_ready (rs := [6]) (by kernel_rfl) (by simp) ?_
    refine AllReadyH.cons rfl (fun K hK => ?_) AllReadyH.nil
    go_simp
    refine hK.out _ _ ?_ (fun hHeld => ?_)
    · exact trivial
    clear hK K
    try simp only [List.getElem_toArray, List.getElem_cons_succ, List.getElem_cons_zero, Act.put, List.setIfInBounds_toArray, List.set_cons_zero, List.set_cons_succ]
    refine wpAnyH_ready (rs := [7]) (by kernel_rfl) (by simp) ?_
    refine AllReadyH.cons rfl (fun K hK => ?_) AllReadyH.nil
    rw [if_pos (by rfl)]
    refine wp_append_any (.tmp 11) (.tmp 16) _ rfl Try.underlying27 L0.out L1.out rfl L2.out (by decide) L3.out (by decide) rfl ((owns_below O.out BA.out).alloc _) (m := 1) rfl (news := [.int .i64 n, .slice A7 bs.length c7]) rfl (fun j u hj => by rw [World.cell?_alloc_new]; simpa using hj) (by simp [Value.oneCell']) (by have := HF.out.m; omega) (by have := BA.out.size; have := HMQ.out; simp; omega) ?_
    intro v5 w5 hown5 hgrow5
    have hbx := box_wtsT (B := w.heap.size) (p := b9) (ws := ws) (x := (n, bs)) (by have := HM1.out; have := QS.out; omega) (by have := HM1.out; have := QS.out; have := HM9.out; omega) C9.out O.out YL.out E.out SQ.out HMQ.out BA.out OA.out (by show bs.length ≤ _; have := XL.out; unfold maxLen; omega) (by have := HF.out.m; unfold maxLen; omega) hown5 hgrow5
    obtain ⟨hc5, hc6, hs6, hw6, hb6⟩ := hbx
    obtain ⟨A6, c6, h6⟩ := own_slice2_ hown5
    subst h6
    have C5 := Lib.hid hc5
    have C6 := Lib.hid hc6
    have S6 := Lib.hid hs6
    have W6 := Lib.hid hw6
    have B6 := Lib.hid (QB3.out.trans hb6)
    have hR5 := (hgrow5.block (w.heap.size + 1) (by have := heap_lt CR.out; have := BA.out.size; simp; omega) (fun e => by have := own_ge O.out _ e.symm; have := HM1.out; have := QS.out; omega)).trans (((BA.out.alloc BA.out.size _).block _ (heap_lt CR.out)).trans CR.out)
    have R6 := Lib.hid ((heap_setFar w5 b9 1 (w.heap.size + 1) (.slice A6 (ws.length + 1) c6) (by have := HM1.out; have := QS.out; have := HM9.out; omega)).trans hR5)
    clear hown5 hgrow5 hc5 hc6 hs6 hw6 hb6 hR5
    refine hK.out _ _ ?_ (fun hHeld => ?_)
    · exact trivial
    clear hK K
    try simp only [List.getElem_toArray, List.getElem_cons_succ, List.getElem_cons_zero, Act.put, List.setIfInBounds_toArray, List.set_cons_zero, List.set_cons_succ]
    refine wpAnyH_take (i := 8) (v := ?_) rfl (by kernel_rfl) (by kernel_rfl) (by kernel_rfl) (fun _ _ _ h => h) (Or.inl ⟨by rfl, ?_⟩) hHeld ?_
    rotate_left
    · intro w' hSw; go_simp; try with_reducible rfl
    simp only [List.getElem_toArray, List.getElem_cons_succ, List.getElem_cons_zero, Act.put, List.setIfInBounds_toArray, List.set_cons_zero, List.set_cons_succ]
    obtain ⟨m0, m1⟩ := cell2_of C5.out
    have f1 := frozen2_of C5.out 1
    refine wpAnyH_ready (rs := [9]) (by kernel_rfl) (by simp) ?_
    refine AllReadyH.cons rfl (fun K hK => ?_) AllReadyH.nil
    rw [if_pos (by rfl)]
    go_simp
    refine hK.out _ _ ?_ (fun hHeld => ?_)
    · exact trivial
    clear hK K
    try simp only [List.getElem_toArray, List.getElem_cons_succ, List.getElem_cons_zero, Act.put, List.setIfInBounds_toArray, List.set_cons_zero, List.set_cons_succ]
    refine wpAnyH_done (by kernel_rfl) ?_ _
    generalize w5.setCell ⟨b9, 1, none⟩ (.slice A6 (ws.length + 1) c6) = w6 at C6 S6 W6 B6 R6 ⊢
    clear m0 m1 f1
    obtain ⟨s0, s1⟩ := cell2_of C6.out
    obtain ⟨t0, t1⟩ := cell2_of R6.out
    have g0 := frozen2_of R6.out 0
    have g1 := frozen2_of R6.out 1
    go_wp2_with fail
    have hgr := grown_set2 w6 (w.heap.size + 1) (.slice A9 ss.length c9) (.slice A6 (ws.length + 1) c6)
    refine bodyPost_ret (v := .agg #[.slice A9 ss.length c9, .slice A6 (ws.length + 1) c6]) ?_ rfl ⟨_, rfl, ⟨_, _, rfl, ?_, ?_⟩, below_set2 B6.out (Nat.le_succ _) _ _⟩
    · exact results_cell_2 rfl _ _ (w.heap.size + 1) rfl (heap_set2 R6.out _ _) Try.underlying29 infoDisk2
    · exact (secs_grown S6.out hgr (by have := QS.out; omega)).mono (by have := QS.out; omega)
    · exact (wts_grown W6.out hgr (by have := QS.out; have := HM1.out; omega)).mono (by have := QS.out; have := HM1.out; omega)
  · rw [if_pos (by rfl)]
    refine wp_append_txt (.const (.slice none 0 0)) (.tmp 13) _ rfl Try.underlying34 J0.out J1.out J2.out J3.out rfl (World.ownsRow_nil q3.drew q3.heap.size _ _) rfl (show Txt q3.drew w.heap.size _ bs from X.out.below QB3.out.drew) (by have := XL.out; omega) (Nat.le_refl _) ?_
    intro y3 wA hoy hgr3
    rw [Nat.zero_add, List.nil_append] at hoy
    obtain ⟨A7, c7, rfl⟩ := own_slice_ hoy
    have OA := Lib.hid hoy
    have BA : Hid (Below q3.heap.size q3 wA) := Lib.hid ((Below.refl _ q3).drew.grown hgr3 (Nat.le_refl _) (fun k hk => by cases hk))
    clear hoy hgr3
    try go_wp2_with fail
    refine hK.out _ _ ?_ (fun hHeld => ?_)
    · exact trivial
    clear hK K
    try simp only [List.getElem_toArray, List.getElem_cons_succ, List.getElem_cons_zero, Act.put, List.setIfInBounds_toArray, List.set_cons_zero, List.set_cons_succ]
    refine wpAnyH_take (i := 5) (v := ?_) rfl (by kernel_rfl) (by kernel_rfl) (by kernel_rfl) (fun _ _ _ h => h) (Or.inl ⟨by rfl, ?_⟩) hHeld ?_
    rotate_left
    · intro w' hSw; go_simp; try with_reducible rfl
    simp only [List.getElem_toArray, List.getElem_cons_succ, List.getElem_cons_zero, Act.put, List.setIfInBounds_toArray, List.set_cons_zero, List.set_cons_succ]
    refine wpAnyH_ready (rs := [1, 6]) (by kernel_rfl) (by simp) ?_
    refine AllReadyH.cons rfl (fun K hK => ?_) (AllReadyH.cons rfl (fun K hK => ?_) AllReadyH.nil)
    · obtain ⟨k0, k1⟩ := cell2_of ((BA.out.block _ (heap_lt C9.out)).trans C9.out)
      go_simp
      refine hK.out _ _ ?_ (fun hHeld => ?_)
      · exact trivial
      clear hK K
      try simp only [List.getElem_toArray, List.getElem_cons_succ, List.getElem_cons_zero, Act.put, List.setIfInBounds_toArray, List.set_cons_zero, List.set_cons_succ]
      refine wpAnyH_ready (rs := [6]) (by kernel_rfl) (by simp) ?_
      refine AllReadyH.cons rfl (fun K hK => ?_) AllReadyH.nil
      go_simp
      refine hK.out _ _ ?_ (fun hHeld => ?_)
      · exact trivial
      clear hK K
      try simp only [List.getElem_toArray, List.getElem_cons_succ, List.getElem_cons_zero, Act.put, List.setIfInBounds_toArray, List.set_cons_zero, List.set_cons_succ]
      refine wpAnyH_ready (rs := [7]) (by kernel_rfl) (by simp) ?_
      refine AllReadyH.cons rfl (fun K hK => ?_) AllReadyH.nil
      rw [if_pos (by rfl)]
      refine wp_append_any (.tmp 11) (.tmp 16) _ rfl Try.underlying27 L0.out L1.out rfl L2.out (by decide) L3.out (by decide) rfl ((owns_below O.out BA.out).alloc _) (m := 1) rfl (news := [.int .i64 n, .slice A7 bs.length c7]) rfl (fun j u hj => by rw [World.cell?_alloc_new]; simpa using hj) (by simp [Value.oneCell']) (by have := HF.out.m; omega) (by have := BA.out.size; have := HMQ.out; simp; omega) ?_
      intro v5 w5 hown5 hgrow5
      have hbx := box_wtsT (B := w.heap.size) (p := b9) (ws := ws) (x := (n, bs)) (by have := HM1.out; have := QS.out; omega) (by have := HM1.out; have := QS.out; have := HM9.out; omega) C9.out O.out YL.out E.out SQ.out HMQ.out BA.out OA.out (by show bs.length ≤ _; have := XL.out; unfold maxLen; omega) (by have := HF.out.m; unfold maxLen; omega) hown5 hgrow5
      obtain ⟨hc5, hc6, hs6, hw6, hb6⟩ := hbx
      obtain ⟨A6, c6, h6⟩ := own_slice2_ hown5
      subst h6
      have C5 := Lib.hid hc5
      have C6 := Lib.hid hc6
      have S6 := Lib.hid hs6
      have W6 := Lib.hid hw6
      have B6 := Lib.hid (QB3.out.trans hb6)
      have hR5 := (hgrow5.block (w.heap.size + 1) (by have := heap_lt CR.out; have := BA.out.size; simp; omega) (fun e => by have := own_ge O.out _ e.symm; have := HM1.out; have := QS.out; omega)).trans (((BA.out.alloc BA.out.size _).block _ (heap_lt CR.out)).trans CR.out)
      have R6 := Lib.hid ((heap_setFar w5 b9 1 (w.heap.size + 1) (.slice A6 (ws.length + 1) c6) (by have := HM1.out; have := QS.out; have := HM9.out; omega)).trans hR5)
      clear hown5 hgrow5 hc5 hc6 hs6 hw6 hb6 hR5
      refine hK.out _ _ ?_ (fun hHeld => ?_)
      · exact trivial
      clear hK K
      try simp only [List.getElem_toArray, List.getElem_cons_succ, List.getElem_cons_zero, Act.put, List.setIfInBounds_toArray, List.set_cons_zero, List.set_cons_succ]
      refine wpAnyH_take (i := 8) (v := ?_) rfl (by kernel_rfl) (by kernel_rfl) (by kernel_rfl) (fun _ _ _ h => h) (Or.inl ⟨by rfl, ?_⟩) hHeld ?_
      rotate_left
      · intro w' hSw; go_simp; try with_reducible rfl
      simp only [List.getElem_toArray, List.getElem_cons_succ, List.getElem_cons_zero, Act.put, List.setIfInBounds_toArray, List.set_cons_zero, List.set_cons_succ]
      obtain ⟨m0, m1⟩ := cell2_of C5.out
      have f1 := frozen2_of C5.out 1
      refine wpAnyH_ready (rs := [9]) (by kernel_rfl) (by simp) ?_
      refine AllReadyH.cons rfl (fun K hK => ?_) AllReadyH.nil
      rw [if_pos (by rfl)]
      go_simp
      refine hK.out _ _ ?_ (fun hHeld => ?_)
      · exact trivial
      clear hK K
      try simp only [List.getElem_toArray, List.getElem_cons_succ, List.getElem_cons_zero, Act.put, List.setIfInBounds_toArray, List.set_cons_zero, List.set_cons_succ]
      refine wpAnyH_done (by kernel_rfl) ?_ _
      generalize w5.setCell ⟨b9, 1, none⟩ (.slice A6 (ws.length + 1) c6) = w6 at C6 S6 W6 B6 R6 ⊢
      clear m0 m1 f1
      obtain ⟨s0, s1⟩ := cell2_of C6.out
      obtain ⟨t0, t1⟩ := cell2_of R6.out
      have g0 := frozen2_of R6.out 0
      have g1 := frozen2_of R6.out 1
      go_wp2_with fail
      have hgr := grown_set2 w6 (w.heap.size + 1) (.slice A9 ss.length c9) (.slice A6 (ws.length + 1) c6)
      refine bodyPost_ret (v := .agg #[.slice A9 ss.length c9, .slice A6 (ws.length + 1) c6]) ?_ rfl ⟨_, rfl, ⟨_, _, rfl, ?_, ?_⟩, below_set2 B6.out (Nat.le_succ _) _ _⟩
      · exact results_cell_2 rfl _ _ (w.heap.size + 1) rfl (heap_set2 R6.out _ _) Try.underlying29 infoDisk2
      · exact (secs_grown S6.out hgr (by have := QS.out; omega)).mono (by have := QS.out; omega)
      · exact (wts_grown W6.out hgr (by have := QS.out; have := HM1.out; omega)).mono (by have := QS.out; have := HM1.out; omega)
    · go_simp
      refine hK.out _ _ ?_ (fun hHeld => ?_)
      · exact trivial
      clear hK K
      try simp only [List.getElem_toArray, List.getElem_cons_succ, List.getElem_cons_zero, Act.put, List.setIfInBounds_toArray, List.set_cons_zero, List.set_cons_succ]
      refine wpAnyH_ready (rs := [1]) (by kernel_rfl) (by simp) ?_
      refine AllReadyH.cons rfl (fun K hK => ?_) AllReadyH.nil
      obtain ⟨k0, k1⟩ := cell2_of (((BA.out.alloc BA.out.size (.cells #[.int .i64 n, .slice A7 bs.length c7] 52)).block _ (heap_lt C9.out)).trans C9.out)
      go_simp
      refine hK.out _ _ ?_ (fun hHeld => ?_)
      · exact trivial
      clear hK K
      try simp only [List.getElem_toArray, List.getElem_cons_succ, List.getElem_cons_zero, Act.put, List.setIfInBounds_toArray, List.set_cons_zero, List.set_cons_succ]
      refine wpAnyH_ready (rs := [7]) (by kernel_rfl) (by simp) ?_
      refine AllReadyH.cons rfl (fun K hK => ?_) AllReadyH.nil
      rw [if_pos (by rfl)]
      refine wp_append_any (.tmp 11) (.tmp 16) _ rfl Try.underlying27 L0.out L1.out rfl L2.out (by decide) L3.out (by decide) rfl ((owns_below O.out BA.out).alloc _) (m := 1) rfl (news := [.int .i64 n, .slice A7 bs.length c7]) rfl (fun j u hj => by rw [World.cell?_alloc_new]; simpa using hj) (by simp [Value.oneCell']) (by have := HF.out.m; omega) (by have := BA.out.size; have := HMQ.out; simp; omega) ?_
      intro v5 w5 hown5 hgrow5
      have hbx := box_wtsT (B := w.heap.size) (p := b9) (ws := ws) (x := (n, bs)) (by have := HM1.out; have := QS.out; omega) (by have := HM1.out; have := QS.out; have := HM9.out; omega) C9.out O.out YL.out E.out SQ.out HMQ.out BA.out OA.out (by show bs.length ≤ _; have := XL.out; unfold maxLen; omega) (by have := HF.out.m; unfold maxLen; omega) hown5 hgrow5
      obtain ⟨hc5, hc6, hs6, hw6, hb6⟩ := hbx
      obtain ⟨A6, c6, h6⟩ := own_slice2_ hown5
      subst h6
      have C5 := Lib.hid hc5
      have C6 := Lib.hid hc6
      have S6 := Lib.hid hs6
      have W6 := Lib.hid hw6
      have B6 := Lib.hid (QB3.out.trans hb6)
      have hR5 := (hgrow5.block (w.heap.size + 1) (by have := heap_lt CR.out; have := BA.out.size; simp; omega) (fun e => by have := own_ge O.out _ e.symm; have := HM1.out; have := QS.out; omega)).trans (((BA.out.alloc BA.out.size _).block _ (heap_lt CR.out)).trans CR.out)
      have R6 := Lib.hid ((heap_setFar w5 b9 1 (w.heap.size + 1) (.slice A6 (ws.length + 1) c6) (by have := HM1.out; have := QS.out; have := HM9.out; omega)).trans hR5)
      clear hown5 hgrow5 hc5 hc6 hs6 hw6 hb6 hR5
      refine hK.out _ _ ?_ (fun hHeld => ?_)
      · exact trivial
      clear hK K
      try simp only [List.getElem_toArray, List.getElem_cons_succ, List.getElem_cons_zero, Act.put, List.setIfInBounds_toArray, List.set_cons_zero, List.set_cons_succ]
      refine wpAnyH_take (i := 8) (v := ?_) rfl (by kernel_rfl) (by kernel_rfl) (by kernel_rfl) (fun _ _ _ h => h) (Or.inl ⟨by rfl, ?_⟩) hHeld ?_
      rotate_left
      · intro w' hSw; go_simp; try with_reducible rfl
      simp only [List.getElem_toArray, List.getElem_cons_succ, List.getElem_cons_zero, Act.put, List.setIfInBounds_toArray, List.set_cons_zero, List.set_cons_succ]
      obtain ⟨m0, m1⟩ := cell2_of C5.out
      have f1 := frozen2_of C5.out 1
      refine wpAnyH_ready (rs := [9]) (by kernel_rfl) (by simp) ?_
      refine AllReadyH.cons rfl (fun K hK => ?_) AllReadyH.nil
      rw [if_pos (by rfl)]
      go_simp
      refine hK.out _ _ ?_ (fun hHeld => ?_)
      · exact trivial
      clear hK K
      try simp only [List.getElem_toArray, List.getElem_cons_succ, List.getElem_cons_zero, Act.put, List.setIfInBounds_toArray, List.set_cons_zero, List.set_cons_succ]
      refine wpAnyH_done (by kernel_rfl) ?_ _
      generalize w5.setCell ⟨b9, 1, none⟩ (.slice A6 (ws.length + 1) c6) = w6 at C6 S6 W6 B6 R6 ⊢
      clear m0 m1 f1
      obtain ⟨s0, s1⟩ := cell2_of C6.out
      obtain ⟨t0, t1⟩ := cell2_of R6.out
      have g0 := frozen2_of R6.out 0
      have g1 := frozen2_of R6.out 1
      go_wp2_with fail
      have hgr := grown_set2 w6 (w.heap.size + 1) (.slice A9 ss.length c9) (.slice A6 (ws.length + 1) c6)
      refine bodyPost_ret (v := .agg #[.slice A9 ss.length c9, .slice A6 (ws.length + 1) c6]) ?_ rfl ⟨_, rfl, ⟨_, _, rfl, ?_, ?_⟩, below_set2 B6.out (Nat.le_succ _) _ _⟩
      · exact results_cell_2 rfl _ _ (w.heap.size + 1) rfl (heap_set2 R6.out _ _) Try.underlying29 infoDisk2
      · exact (secs_grown S6.out hgr (by have := QS.out; omega)).mono (by have := QS.out; omega)
      · exact (wts_grown W6.out hgr (by have := QS.out; have := HM1.out; omega)).mono (by have := QS.out; have := HM1.out; omega)

end Go.Proofs.Ytdjoflhcagfmiaa
