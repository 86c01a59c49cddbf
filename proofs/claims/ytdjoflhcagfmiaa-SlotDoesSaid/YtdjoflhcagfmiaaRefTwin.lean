/-
  The document's own functions: Twin.
  Conditions: at most 1,000 sectors and writes, none of more than 1,000,000 bytes.
-/
import Derived.Test.YtdjoflhcagfmiaaMRef
import Derived.Test.YtdjoflhcagfmiaaMBase
import Derived.Deep.DeepMust
set_option linter.unusedVariables false
set_option linter.unusedSimpArgs false
set_option maxRecDepth 100000
namespace Go.Proofs.Ytdjoflhcagfmiaa
open Go.RowKit

/-- A row of texts of the call's own, its slices named. -/
def SecsY (W : World) (lo : Nat) (v : Value) (ss : List Bs) (ys : List Value) : Prop :=
  W.ownsRow lo 34 1 v ss.length ys ∧ ys.length = ss.length ∧ ss.length ≤ maxLen ∧
    (∀ (j : Nat) (y : Value) (s : Bs), ys[j]? = some y → ss[j]? = some s → W.ownsRow lo 5 1 y s.length (s.map u8) ∧ s.length ≤ maxLen) ∧
    (∀ (i j : Nat) (y z : Value) (b : Nat), ys[i]? = some y → ys[j]? = some z → y.ownBlock = some b → z.ownBlock = some b → i = j)
theorem SecsY.at_ {W : World} {lo : Nat} {v : Value} {ss : List Bs} {ys : List Value} (h : SecsY W lo v ss ys) : SecsAt W lo v ss := ⟨ys, h⟩
theorem SecsY.lt {W : World} {lo : Nat} {v : Value} {ss : List Bs} {ys : List Value} (h : SecsY W lo v ss ys) : ∀ (j : Nat) (y : Value) (b : Nat), ys[j]? = some y → y.ownBlock = some b → b < W.heap.size := by
  intro j y b hy hb
  obtain ⟨ho, hl, hm, he, hd⟩ := h
  have hj : j < ss.length := by rw [← hl]; exact (List.getElem?_eq_some_iff.1 hy).1
  exact ((he j y _ hy (List.getElem?_eq_getElem hj)).1.lt b hb).2
theorem SecsY.below {W W' : World} {lo : Nat} {v : Value} {ss : List Bs} {ys : List Value} (h : SecsY W lo v ss ys) (hb : Below W.heap.size W W') : SecsY W' lo v ss ys := by
  obtain ⟨ho, hl, hm, he, hd⟩ := h
  exact ⟨owns_below ho hb, hl, hm, fun j y s h1 h2 => ⟨owns_below (he j y s h1 h2).1 hb, (he j y s h1 h2).2⟩, hd⟩
theorem SecsY.kept {W W' : World} {lo : Nat} {v v0 : Value} {ss : List Bs} {ys : List Value} {b e size n : Nat} {xs : List Value} (h : SecsY W lo v ss ys) (h0 : W.ownsRow b e size v0 n xs) (h1 : 34 ≠ e) (h2 : 5 ≠ e) (hg : W.grownBy W' v0.ownBlock) : SecsY W' lo v ss ys := by
  obtain ⟨ho, hl, hm, he, hd⟩ := h
  exact ⟨ho.kept hg (owns_apart h1 ho h0), hl, hm, fun j y s h3 h4 => ⟨(he j y s h3 h4).1.kept hg (owns_apart h2 (he j y s h3 h4).1 h0), (he j y s h3 h4).2⟩, hd⟩
theorem SecsY.grown {W W' : World} {lo b : Nat} {v : Value} {ss : List Bs} {ys : List Value} (h : SecsY W lo v ss ys) (hg : W.grownBy W' (some b)) (hb : b < lo) : SecsY W' lo v ss ys := by
  obtain ⟨ho, hl, hm, he, hd⟩ := h
  have ap : ∀ {e size n : Nat} {v : Value} {xs : List Value}, W.ownsRow lo e size v n xs → v.ownBlock = none ∨ v.ownBlock ≠ some b := fun h => by
    cases hv : Value.ownBlock _ with
    | none => exact .inl rfl
    | some g => exact .inr (fun e1 => by cases e1; have := (h.lt b hv).1; omega)
  exact ⟨ho.kept hg (ap ho), hl, hm, fun j y s h1 h2 => ⟨(he j y s h1 h2).1.kept hg (ap (he j y s h1 h2).1), (he j y s h1 h2).2⟩, hd⟩
theorem SecsY.cell_lt {W : World} {lo m : Nat} {v : Value} {ss : List Bs} {ys : List Value} (h : SecsY W lo v ss ys) (hm : ∀ (j : Nat) (y : Value) (b : Nat), ys[j]? = some y → y.ownBlock = some b → b < m) : ∀ (b n c j g len cap : Nat), v = .slice (some ⟨b, 0, none⟩) n c → j < ss.length → W.cell? ⟨b, j, none⟩ = some (.slice (some ⟨g, 0, none⟩) len cap) → g < m := by
  intro b n c j g len cap e hj hc
  obtain ⟨ho, hl, _, he, hd⟩ := h
  subst e
  have ho' := ho
  rcases ho.2 with ⟨e, _⟩ | ⟨b', cap', cur, e, _⟩
  · cases e
  · cases e
    have hy : ys[j]? = some ys[j] := List.getElem?_eq_getElem (by omega)
    rw [ho'.cellAt j (by omega), hy] at hc
    exact hm j _ g hy (by rw [Option.some.inj hc]; rfl)

theorem box_wtsY {W w1 w5 : World} {p lo m : Nat} {v1 v v5 y : Value} {ss : List Bs} {x : Wr} {ws : List Wr} {ys zs : List Value} {o : Obj} (hp : p < lo) (hpm : p < m) (hc : W.heap[p]? = some (.cells #[v1, v] 29 (0, 0)))
    (ho : W.ownsRow m 52 2 v ws.length (wcells ws ys)) (hl : ys.length = ws.length)
    (he : ∀ (j : Nat) (y : Value) (w : Wr), ys[j]? = some y → ws[j]? = some w → W.ownsRow m 5 1 y w.2.length (w.2.map u8) ∧ w.2.length ≤ maxLen)
    (hss : SecsY W lo v1 ss zs) (hlo : m ≤ W.heap.size) (hb1 : Below W.heap.size W w1) (hy : w1.ownsRow W.heap.size 5 1 y x.2.length (x.2.map u8)) (hs : x.2.length ≤ maxLen) (hmx : ws.length + 1 ≤ maxLen)
    (hown : w5.ownsRow m 52 2 v5 (ws.length + 1) (wcells ws ys ++ [.int .i64 x.1, y])) (hgr : (w1.alloc o).grownBy w5 v.ownBlock) :
    w5.heap[p]? = some (.cells #[v1, v] 29 (0, 0)) ∧ Below m W w5 ∧ (w5.setCell ⟨p, 1, none⟩ v5).heap[p]? = some (.cells #[v1, v5] 29 (0, 0)) ∧ SecsY (w5.setCell ⟨p, 1, none⟩ v5) lo v1 ss zs ∧ WtsAt (w5.setCell ⟨p, 1, none⟩ v5) m v5 (ws ++ [x]) ∧ Below p W (w5.setCell ⟨p, 1, none⟩ v5) ∧ m ≤ (w5.setCell ⟨p, 1, none⟩ v5).heap.size := by
  have hv : (w1.alloc o).ownsRow m 52 2 v ws.length (wcells ws ys) := (owns_below ho hb1).alloc o
  obtain ⟨h1, h2⟩ := box_row (m := 0) (v5 := v5) (zs := []) hpm hc ho hlo hb1 hgr
  have hg := grown_set w5 p 1 v5
  refine ⟨h1, h2, heap_setB h1 v5, (((hss.below hb1).below (below_new w1 o)).kept hv (by decide) (by decide) hgr).grown hg hp, wts_grown (wts_snoc ho hl he hlo hb1 hy hs hmx hown hgr) hg hpm, below_set (h2.mono (by omega)) (Nat.le_refl _) 1 v5, ?_⟩
  exact Nat.le_trans (Nat.le_trans hlo h2.size) hg.size

theorem new_setW (w : World) (b : Nat) (x a1 a2 : Value) : ∀ (j : Nat) (u : Value), [a1, a2][j]? = some u → ((w.setCell ⟨b, 1, none⟩ x).alloc (.cells #[a1, a2] 52)).cell? ⟨w.heap.size, j, none⟩ = some u := fun j u hj => by
  have e : w.heap.size = (w.setCell ⟨b, 1, none⟩ x).heap.size := by simp [World.setCell]
  rw [e, World.cell?_alloc_new]
  simpa using hj
theorem owns_setW {w : World} {base n b : Nat} {v x1 x2 : Value} {xs : List Value} (h : w.ownsRow base 5 1 v n xs) (hc : w.heap[b]? = some (.cells #[x1, x2] 52 (0, 0))) (x : Value) : (w.setCell ⟨b, 1, none⟩ x).ownsRow base 5 1 v n xs := by
  refine h.kept (grown_set w b 1 x) ?_
  cases hv : v.ownBlock with
  | none => exact .inl rfl
  | some g =>
    refine .inr fun e => ?_
    cases e
    obtain ⟨cur, h1, _⟩ := owns_block h hv
    rw [hc] at h1
    cases h1

set_option maxRecDepth 100000 in
set_option maxHeartbeats 8000000 in
theorem rtwin_any (d : Value) (ss : List Bs) (ws : List Wr) (w : World) (h : DiskIn w w.heap.size d ss ws) (hf : Fits ss ws) :
    Calls Try.prog 16 #[d] w fun e w' => ∃ v1 v2 m, e = .returned (.agg #[v1, v2]) ∧ SecsAt w' w.heap.size v1 ss ∧ WtsAt w' m v2 ws ∧ w.heap.size ≤ m ∧ (∀ (b n c j g len cap : Nat), v1 = .slice (some ⟨b, 0, none⟩) n c → j < ss.length → w'.cell? ⟨b, j, none⟩ = some (.slice (some ⟨g, 0, none⟩) len cap) → g < m) ∧ Below w.heap.size w w' ∧ m ≤ w'.heap.size := by
  obtain ⟨v1, v2, rfl, h1, h2⟩ := id h
  obtain ⟨i0, hi, hz0, hz1, hz2⟩ := info_parts infoSlice
  have I0 := Lib.hid hi
  have I1 := Lib.hid hz0
  have I2 := Lib.hid hz1
  have I3 := Lib.hid hz2
  clear hi hz0 hz1 hz2
  obtain ⟨i1, hi, hz0, hz1, hz2⟩ := info_parts infoByte
  have J0 := Lib.hid hi
  have J1 := Lib.hid hz0
  have J2 := Lib.hid hz1
  have J3 := Lib.hid hz2
  clear hi hz0 hz1 hz2
  obtain ⟨i2, hi, hz0, hz1, hz2⟩ := info_parts infoWrite
  have L0 := Lib.hid hi
  have L1 := Lib.hid hz0
  have L2 := Lib.hid hz1
  have L3 := Lib.hid hz2
  clear hi hz0 hz1 hz2
  have H1 := Lib.hid h1
  have H2 := Lib.hid h2
  have HF := Lib.hid hf
  obtain ⟨A1, c1, rfl, -, -, -, -⟩ := h1
  obtain ⟨A2, c2, rfl, -, -, -, -⟩ := h2
  have hns : (ss.length : Int) ≤ 1000 := by have := hf.n; omega
  have hnw : (ws.length : Int) ≤ 1000 := by have := hf.m; omega
  have hq := three_boxes w (.cells #[.slice A1 ss.length c1, .slice A2 ws.length c2] 29) (.cells #[.slice none 0 0, .slice none 0 0] 29) (.cells #[.slice none 0 0, .slice none 0 0] 29)
  have hqs : (((w.alloc (.cells #[.slice A1 ss.length c1, .slice A2 ws.length c2] 29)).alloc (.cells #[.slice none 0 0, .slice none 0 0] 29)).alloc (.cells #[.slice none 0 0, .slice none 0 0] 29)).heap.size = w.heap.size + 3 := by simp
  clear h hf
  go_enter Try.func16, Try.ntmps16
  go_wp2_with fail
  generalize ((w.alloc (.cells #[.slice A1 ss.length c1, .slice A2 ws.length c2] 29)).alloc (.cells #[.slice none 0 0, .slice none 0 0] 29)).alloc (.cells #[.slice none 0 0, .slice none 0 0] 29) = q at hq hqs ⊢
  obtain ⟨q0, q1, q2, qb⟩ := hq
  have QB := Lib.hid qb
  have Q0 := Lib.hid q0
  have Q1 := Lib.hid q1
  have Q2 := Lib.hid q2
  have QS := Lib.hid hqs
  clear q0 q1 q2 qb hqs
  go_loopw [4] (fun s4 wr => ∃ (i : Nat) (v : Value), i ≤ ss.length ∧ s4 = .int .i64 i ∧ wr.heap[w.heap.size + 2]? = some (.cells #[v, .slice none 0 0] 29 (0, 0)) ∧ SecsAt wr (w.heap.size + 3) v (ss.take i) ∧ Below (w.heap.size + 2) q wr ∧ w.heap.size + 3 ≤ wr.heap.size) (fun s4 _ => ss.length - (intOf s4).toNat)
  case atStart => exact ⟨0, _, by omega, rfl, Q2.out, SecsAt.nil_ _ _, Below.refl _ _, by rw [QS.out]; exact Nat.le_refl _⟩
  case round =>
    obtain ⟨i, v, hi, rfl, hd, hs, hb, hqs⟩ := hrel
    have hti : (ss.take i).length = i := by rw [List.length_take]; omega
    obtain ⟨A, c, hv⟩ := secs_slice hs
    rw [hti] at hv
    subst hv
    have HD := Lib.hid hd
    have HB := Lib.hid hb
    have HQ := Lib.hid hqs
    have HTI := Lib.hid hti
    have WB : Hid (Below w.heap.size w wr) := Lib.hid (QB.out.trans (hb.mono (by omega)))
    have HX0 := Lib.hid ((hb.block w.heap.size (by omega)).trans Q0.out)
    obtain ⟨x0, x1⟩ := cell2_of HX0.out
    by_cases hlt : i < ss.length
    · have hlt' : (i : Int) < ss.length := by omega
      obtain ⟨ys, hown, hyl, hm, he, hdd⟩ := hs
      rw [hti] at hown hyl
      have O := Lib.hid hown
      have YL := Lib.hid hyl
      have E := Lib.hid he
      have D := Lib.hid hdd
      have HLT := Lib.hid hlt
      obtain ⟨s, hse, hsl, sb, so, u, hA, hsb, hcs, ht⟩ : ∃ s, ss[i]? = some s ∧ s.length ≤ 1000000 ∧ ∃ sb so u, A1 = some ⟨sb, so, none⟩ ∧ sb < w.heap.size ∧ w.cell? ⟨sb, so + i, none⟩ = some u ∧ Txt w w.heap.size u s := ⟨ss[i], List.getElem?_eq_getElem hlt, HF.out.s _ (List.getElem_mem hlt), H1.out.at hlt⟩
      subst hA
      have HT := Lib.hid ht
      obtain ⟨A3, c3, rfl, -, -, -, -⟩ := ht
      have HSB := Lib.hid hsb
      have HCS := Lib.hid hcs
      have HSE := Lib.hid hse
      have HSI := Lib.hid hsl
      clear hd hb hqs hown hyl hm he hdd hti hlt hcs hse hsl
      obtain ⟨d0, d1⟩ := cell2_of HD.out
      go_wp2_with fail
      refine wp_region_held_drew (S := fun v => Below (w.heap.size + 2) wr v) (by kernel_rfl) ((Below.refl _ wr).drew) (fun hHeld => ?_)
      refine wpAnyH_take (i := 0) (v := ?_) rfl (by kernel_rfl) (by kernel_rfl) (by kernel_rfl) (fun _ _ _ h => h) (Or.inl ⟨by rfl, ?_⟩) hHeld ?_
      rotate_left
      · intro w' hSw; go_simp; try with_reducible rfl
      simp only [List.getElem_toArray, List.getElem_cons_succ, List.getElem_cons_zero, Act.put, List.setIfInBounds_toArray, List.set_cons_zero, List.set_cons_succ]
      refine wpAnyH_take (i := 2) (v := ?_) rfl (by kernel_rfl) (by kernel_rfl) (by kernel_rfl) (fun _ _ _ h => h) (Or.inl ⟨by rfl, ?_⟩) hHeld ?_
      rotate_left
      · intro w' hSw; go_simp; try with_reducible rfl
      simp only [List.getElem_toArray, List.getElem_cons_succ, List.getElem_cons_zero, Act.put, List.setIfInBounds_toArray, List.set_cons_zero, List.set_cons_succ]
      refine wpAnyH_take (i := 3) (v := ?_) rfl (by kernel_rfl) (by kernel_rfl) (by kernel_rfl) (fun _ _ _ h => h) (Or.inl ⟨by rfl, ?_⟩) hHeld ?_
      rotate_left
      · intro w' hSw; obtain ⟨c0, c1⟩ := cell2_of (((show Below (w.heap.size + 2) wr w' from hSw).block w.heap.size (by omega)).trans HX0.out); go_simp; try with_reducible rfl
      simp only [List.getElem_toArray, List.getElem_cons_succ, List.getElem_cons_zero, Act.put, List.setIfInBounds_toArray, List.set_cons_zero, List.set_cons_succ]
      refine wpAnyH_take (i := 4) (v := ?_) rfl (by kernel_rfl) (by kernel_rfl) (by kernel_rfl) (fun _ _ _ h => h) (Or.inl ⟨by rfl, ?_⟩) hHeld ?_
      rotate_left
      · intro w' hSw; go_simp; try with_reducible rfl
      simp only [List.getElem_toArray, List.getElem_cons_succ, List.getElem_cons_zero, Act.put, List.setIfInBounds_toArray, List.set_cons_zero, List.set_cons_succ]
      refine wpAnyH_take (i := 5) (v := ?_) rfl (by kernel_rfl) (by kernel_rfl) (by kernel_rfl) (fun _ _ _ h => h) (Or.inl ⟨by rfl, ?_⟩) hHeld ?_
      rotate_left
      · intro w' hSw; go_simp; try with_reducible rfl
      simp only [List.getElem_toArray, List.getElem_cons_succ, List.getElem_cons_zero, Act.put, List.setIfInBounds_toArray, List.set_cons_zero, List.set_cons_succ]
      refine wpAnyH_take (i := 6) (v := ?_) rfl (by kernel_rfl) (by kernel_rfl) (by kernel_rfl) (fun _ _ _ h => h) (Or.inl ⟨by rfl, ?_⟩) hHeld ?_
      rotate_left
      · intro w' hSw; have cs := ((show Below (w.heap.size + 2) wr w' from hSw).cell (p := ⟨sb, so + i, none⟩) (by have := HSB.out; show sb < _; omega)).trans ((WB.out.cell (p := ⟨sb, so + i, none⟩) HSB.out).trans HCS.out); go_simp; try with_reducible rfl
      simp only [List.getElem_toArray, List.getElem_cons_succ, List.getElem_cons_zero, Act.put, List.setIfInBounds_toArray, List.set_cons_zero, List.set_cons_succ]
      refine wpAnyH_ready (rs := [1, 7]) (by kernel_rfl) (by simp) ?_
      refine AllReadyH.cons rfl (fun K hK => ?_) (AllReadyH.cons rfl (fun K hK => ?_) AllReadyH.nil)
      · go_simp
        refine hK.out _ _ ?_ (fun hHeld => ?_)
        · exact (Below.refl _ wr).drew
        clear hK K
        try simp only [List.getElem_toArray, List.getElem_cons_succ, List.getElem_cons_zero, Act.put, List.setIfInBounds_toArray, List.set_cons_zero, List.set_cons_succ]
        refine wpAnyH_ready (rs := [7]) (by kernel_rfl) (by simp) ?_
        refine AllReadyH.cons rfl (fun K hK => ?_) AllReadyH.nil
        rw [if_pos (by rfl)]
        refine wp_append_txt (.const (.slice none 0 0)) (.tmp 20) _ rfl Try.underlying34 J0.out J1.out J2.out J3.out rfl (World.ownsRow_nil wr.drew wr.heap.size _ _) rfl (show Txt wr.drew w.heap.size _ s from HT.out.below WB.out.drew) (by have := HSI.out; omega) (Nat.le_refl _) ?_
        intro y3 w3 hoy hgr3
        rw [Nat.zero_add, List.nil_append] at hoy
        obtain ⟨A7, c7, rfl⟩ := own_slice_ hoy
        have MR := Lib.hid hoy
        have MB : Hid (Below wr.heap.size wr w3) := Lib.hid ((Below.refl _ wr).drew.grown hgr3 (Nat.le_refl _) (fun k hk => by cases hk))
        have MB4 : Hid (Below wr.heap.size wr (w3.alloc (.cells #[.slice A7 s.length c7] 34))) := Lib.hid (MB.out.alloc MB.out.size _)
        have MB2 : Hid (Below (w.heap.size + 2) wr w3) := Lib.hid (MB.out.mono (by have := HQ.out; omega))
        clear hoy hgr3
        try go_wp2_with fail
        refine hK.out _ _ ?_ (fun hHeld => ?_)
        · exact MB2.out
        clear hK K
        try simp only [List.getElem_toArray, List.getElem_cons_succ, List.getElem_cons_zero, Act.put, List.setIfInBounds_toArray, List.set_cons_zero, List.set_cons_succ]
        refine wpAnyH_ready (rs := [8]) (by kernel_rfl) (by simp) ?_
        refine AllReadyH.cons rfl (fun K hK => ?_) AllReadyH.nil
        go_simp
        refine hK.out _ _ ?_ (fun hHeld => ?_)
        · exact MB4.out.mono (by have := HQ.out; omega)
        clear hK K
        try simp only [List.getElem_toArray, List.getElem_cons_succ, List.getElem_cons_zero, Act.put, List.setIfInBounds_toArray, List.set_cons_zero, List.set_cons_succ]
        refine wpAnyH_ready (rs := [9]) (by kernel_rfl) (by simp) ?_
        refine AllReadyH.cons rfl (fun K hK => ?_) AllReadyH.nil
        rw [if_pos (by rfl)]
        refine wp_append_any (.tmp 15) (.tmp 22) _ rfl Try.underlying26 I0.out I1.out rfl I2.out (by decide) I3.out (by decide) rfl ((owns_below O.out MB.out).alloc _) (m := 1) rfl (news := [.slice A7 s.length c7]) rfl (fun j u hj => by rw [World.cell?_alloc_new]; simpa using hj) (by simp [Value.oneCell']) (by have := HLT.out; have := HF.out.n; omega) (Nat.le_trans HQ.out MB4.out.size) ?_
        intro v5 w5 hown5 hgrow5
        obtain ⟨hc5, hb5, hc6, hs6, -, hb6, hl6⟩ := box_secs (p := w.heap.size + 2) (ss := ss.take i) (s := s) (ws := []) (by omega) HD.out (by rw [HTI.out]; exact O.out) (by rw [HTI.out]; exact YL.out) E.out D.out (WtsAt.nil_ _ _) HQ.out MB.out MR.out (by have := HSI.out; unfold maxLen; omega) (by rw [HTI.out]; have := HLT.out; have := HF.out.n; unfold maxLen; omega) (by rw [HTI.out]; exact hown5) hgrow5
        rw [show ss.take i ++ [s] = ss.take (i + 1) from by rw [List.take_add_one, HSE.out]; rfl] at hs6
        obtain ⟨A6, c6, h6⟩ := own_slice2_ hown5
        subst h6
        have C5 := Lib.hid hc5
        have B5 := Lib.hid hb5
        have C6 := Lib.hid hc6
        have S6 := Lib.hid hs6
        have B6 := Lib.hid hb6
        have L6 := Lib.hid hl6
        clear hown5 hgrow5 hc5 hb5 hc6 hs6 hb6 hl6
        refine hK.out _ _ ?_ (fun hHeld => ?_)
        · exact B5.out.mono (by omega)
        clear hK K
        try simp only [List.getElem_toArray, List.getElem_cons_succ, List.getElem_cons_zero, Act.put, List.setIfInBounds_toArray, List.set_cons_zero, List.set_cons_succ]
        refine wpAnyH_take (i := 10) (v := ?_) rfl (by kernel_rfl) (by kernel_rfl) (by kernel_rfl) (fun _ _ _ h => h) (Or.inl ⟨by rfl, ?_⟩) hHeld ?_
        rotate_left
        · intro w' hSw; go_simp; try with_reducible rfl
        simp only [List.getElem_toArray, List.getElem_cons_succ, List.getElem_cons_zero, Act.put, List.setIfInBounds_toArray, List.set_cons_zero, List.set_cons_succ]
        obtain ⟨m0, m1⟩ := cell2_of C5.out
        have f0 := frozen2_of C5.out 0
        refine wpAnyH_ready (rs := [11]) (by kernel_rfl) (by simp) ?_
        refine AllReadyH.cons rfl (fun K hK => ?_) AllReadyH.nil
        rw [if_pos (by rfl)]
        go_simp
        refine hK.out _ _ ?_ (fun hHeld => ?_)
        · exact B6.out
        clear hK K
        try simp only [List.getElem_toArray, List.getElem_cons_succ, List.getElem_cons_zero, Act.put, List.setIfInBounds_toArray, List.set_cons_zero, List.set_cons_succ]
        refine wpAnyH_done (by kernel_rfl) ?_ _
        generalize w5.setCell ⟨w.heap.size + 2, 0, none⟩ (.slice A6 (i + 1) c6) = w6 at C6 S6 B6 L6 ⊢
        clear m0 m1 f0
        go_wp2_with fail
        go_roundw
        case measure => have := HLT.out; simp [intOf]; omega
        case rel => exact ⟨i + 1, _, by have := HLT.out; omega, by go_num, C6.out, S6.out, HB.out.trans B6.out, L6.out⟩
      · rw [if_pos (by rfl)]
        refine wp_append_txt (.const (.slice none 0 0)) (.tmp 20) _ rfl Try.underlying34 J0.out J1.out J2.out J3.out rfl (World.ownsRow_nil wr.drew wr.heap.size _ _) rfl (show Txt wr.drew w.heap.size _ s from HT.out.below WB.out.drew) (by have := HSI.out; omega) (Nat.le_refl _) ?_
        intro y3 w3 hoy hgr3
        rw [Nat.zero_add, List.nil_append] at hoy
        obtain ⟨A7, c7, rfl⟩ := own_slice_ hoy
        have MR := Lib.hid hoy
        have MB : Hid (Below wr.heap.size wr w3) := Lib.hid ((Below.refl _ wr).drew.grown hgr3 (Nat.le_refl _) (fun k hk => by cases hk))
        have MB4 : Hid (Below wr.heap.size wr (w3.alloc (.cells #[.slice A7 s.length c7] 34))) := Lib.hid (MB.out.alloc MB.out.size _)
        have MB2 : Hid (Below (w.heap.size + 2) wr w3) := Lib.hid (MB.out.mono (by have := HQ.out; omega))
        clear hoy hgr3
        try go_wp2_with fail
        refine hK.out _ _ ?_ (fun hHeld => ?_)
        · exact MB2.out
        clear hK K
        try simp only [List.getElem_toArray, List.getElem_cons_succ, List.getElem_cons_zero, Act.put, List.setIfInBounds_toArray, List.set_cons_zero, List.set_cons_succ]
        refine wpAnyH_ready (rs := [1, 8]) (by kernel_rfl) (by simp) ?_
        refine AllReadyH.cons rfl (fun K hK => ?_) (AllReadyH.cons rfl (fun K hK => ?_) AllReadyH.nil)
        · obtain ⟨k0, k1⟩ := cell2_of ((MB.out.block _ (heap_lt HD.out)).trans HD.out)
          go_simp
          refine hK.out _ _ ?_ (fun hHeld => ?_)
          · exact MB2.out
          clear hK K
          try simp only [List.getElem_toArray, List.getElem_cons_succ, List.getElem_cons_zero, Act.put, List.setIfInBounds_toArray, List.set_cons_zero, List.set_cons_succ]
          refine wpAnyH_ready (rs := [8]) (by kernel_rfl) (by simp) ?_
          refine AllReadyH.cons rfl (fun K hK => ?_) AllReadyH.nil
          go_simp
          refine hK.out _ _ ?_ (fun hHeld => ?_)
          · exact MB4.out.mono (by have := HQ.out; omega)
          clear hK K
          try simp only [List.getElem_toArray, List.getElem_cons_succ, List.getElem_cons_zero, Act.put, List.setIfInBounds_toArray, List.set_cons_zero, List.set_cons_succ]
          refine wpAnyH_ready (rs := [9]) (by kernel_rfl) (by simp) ?_
          refine AllReadyH.cons rfl (fun K hK => ?_) AllReadyH.nil
          rw [if_pos (by rfl)]
          refine wp_append_any (.tmp 15) (.tmp 22) _ rfl Try.underlying26 I0.out I1.out rfl I2.out (by decide) I3.out (by decide) rfl ((owns_below O.out MB.out).alloc _) (m := 1) rfl (news := [.slice A7 s.length c7]) rfl (fun j u hj => by rw [World.cell?_alloc_new]; simpa using hj) (by simp [Value.oneCell']) (by have := HLT.out; have := HF.out.n; omega) (Nat.le_trans HQ.out MB4.out.size) ?_
          intro v5 w5 hown5 hgrow5
          obtain ⟨hc5, hb5, hc6, hs6, -, hb6, hl6⟩ := box_secs (p := w.heap.size + 2) (ss := ss.take i) (s := s) (ws := []) (by omega) HD.out (by rw [HTI.out]; exact O.out) (by rw [HTI.out]; exact YL.out) E.out D.out (WtsAt.nil_ _ _) HQ.out MB.out MR.out (by have := HSI.out; unfold maxLen; omega) (by rw [HTI.out]; have := HLT.out; have := HF.out.n; unfold maxLen; omega) (by rw [HTI.out]; exact hown5) hgrow5
          rw [show ss.take i ++ [s] = ss.take (i + 1) from by rw [List.take_add_one, HSE.out]; rfl] at hs6
          obtain ⟨A6, c6, h6⟩ := own_slice2_ hown5
          subst h6
          have C5 := Lib.hid hc5
          have B5 := Lib.hid hb5
          have C6 := Lib.hid hc6
          have S6 := Lib.hid hs6
          have B6 := Lib.hid hb6
          have L6 := Lib.hid hl6
          clear hown5 hgrow5 hc5 hb5 hc6 hs6 hb6 hl6
          refine hK.out _ _ ?_ (fun hHeld => ?_)
          · exact B5.out.mono (by omega)
          clear hK K
          try simp only [List.getElem_toArray, List.getElem_cons_succ, List.getElem_cons_zero, Act.put, List.setIfInBounds_toArray, List.set_cons_zero, List.set_cons_succ]
          refine wpAnyH_take (i := 10) (v := ?_) rfl (by kernel_rfl) (by kernel_rfl) (by kernel_rfl) (fun _ _ _ h => h) (Or.inl ⟨by rfl, ?_⟩) hHeld ?_
          rotate_left
          · intro w' hSw; go_simp; try with_reducible rfl
          simp only [List.getElem_toArray, List.getElem_cons_succ, List.getElem_cons_zero, Act.put, List.setIfInBounds_toArray, List.set_cons_zero, List.set_cons_succ]
          obtain ⟨m0, m1⟩ := cell2_of C5.out
          have f0 := frozen2_of C5.out 0
          refine wpAnyH_ready (rs := [11]) (by kernel_rfl) (by simp) ?_
          refine AllReadyH.cons rfl (fun K hK => ?_) AllReadyH.nil
          rw [if_pos (by rfl)]
          go_simp
          refine hK.out _ _ ?_ (fun hHeld => ?_)
          · exact B6.out
          clear hK K
          try simp only [List.getElem_toArray, List.getElem_cons_succ, List.getElem_cons_zero, Act.put, List.setIfInBounds_toArray, List.set_cons_zero, List.set_cons_succ]
          refine wpAnyH_done (by kernel_rfl) ?_ _
          generalize w5.setCell ⟨w.heap.size + 2, 0, none⟩ (.slice A6 (i + 1) c6) = w6 at C6 S6 B6 L6 ⊢
          clear m0 m1 f0
          go_wp2_with fail
          go_roundw
          case measure => have := HLT.out; simp [intOf]; omega
          case rel => exact ⟨i + 1, _, by have := HLT.out; omega, by go_num, C6.out, S6.out, HB.out.trans B6.out, L6.out⟩
        · go_simp
          refine hK.out _ _ ?_ (fun hHeld => ?_)
          · exact MB4.out.mono (by have := HQ.out; omega)
          clear hK K
          try simp only [List.getElem_toArray, List.getElem_cons_succ, List.getElem_cons_zero, Act.put, List.setIfInBounds_toArray, List.set_cons_zero, List.set_cons_succ]
          refine wpAnyH_ready (rs := [1]) (by kernel_rfl) (by simp) ?_
          refine AllReadyH.cons rfl (fun K hK => ?_) AllReadyH.nil
          obtain ⟨k0, k1⟩ := cell2_of ((MB4.out.block _ (heap_lt HD.out)).trans HD.out)
          go_simp
          refine hK.out _ _ ?_ (fun hHeld => ?_)
          · exact MB4.out.mono (by have := HQ.out; omega)
          clear hK K
          try simp only [List.getElem_toArray, List.getElem_cons_succ, List.getElem_cons_zero, Act.put, List.setIfInBounds_toArray, List.set_cons_zero, List.set_cons_succ]
          refine wpAnyH_ready (rs := [9]) (by kernel_rfl) (by simp) ?_
          refine AllReadyH.cons rfl (fun K hK => ?_) AllReadyH.nil
          rw [if_pos (by rfl)]
          refine wp_append_any (.tmp 15) (.tmp 22) _ rfl Try.underlying26 I0.out I1.out rfl I2.out (by decide) I3.out (by decide) rfl ((owns_below O.out MB.out).alloc _) (m := 1) rfl (news := [.slice A7 s.length c7]) rfl (fun j u hj => by rw [World.cell?_alloc_new]; simpa using hj) (by simp [Value.oneCell']) (by have := HLT.out; have := HF.out.n; omega) (Nat.le_trans HQ.out MB4.out.size) ?_
          intro v5 w5 hown5 hgrow5
          obtain ⟨hc5, hb5, hc6, hs6, -, hb6, hl6⟩ := box_secs (p := w.heap.size + 2) (ss := ss.take i) (s := s) (ws := []) (by omega) HD.out (by rw [HTI.out]; exact O.out) (by rw [HTI.out]; exact YL.out) E.out D.out (WtsAt.nil_ _ _) HQ.out MB.out MR.out (by have := HSI.out; unfold maxLen; omega) (by rw [HTI.out]; have := HLT.out; have := HF.out.n; unfold maxLen; omega) (by rw [HTI.out]; exact hown5) hgrow5
          rw [show ss.take i ++ [s] = ss.take (i + 1) from by rw [List.take_add_one, HSE.out]; rfl] at hs6
          obtain ⟨A6, c6, h6⟩ := own_slice2_ hown5
          subst h6
          have C5 := Lib.hid hc5
          have B5 := Lib.hid hb5
          have C6 := Lib.hid hc6
          have S6 := Lib.hid hs6
          have B6 := Lib.hid hb6
          have L6 := Lib.hid hl6
          clear hown5 hgrow5 hc5 hb5 hc6 hs6 hb6 hl6
          refine hK.out _ _ ?_ (fun hHeld => ?_)
          · exact B5.out.mono (by omega)
          clear hK K
          try simp only [List.getElem_toArray, List.getElem_cons_succ, List.getElem_cons_zero, Act.put, List.setIfInBounds_toArray, List.set_cons_zero, List.set_cons_succ]
          refine wpAnyH_take (i := 10) (v := ?_) rfl (by kernel_rfl) (by kernel_rfl) (by kernel_rfl) (fun _ _ _ h => h) (Or.inl ⟨by rfl, ?_⟩) hHeld ?_
          rotate_left
          · intro w' hSw; go_simp; try with_reducible rfl
          simp only [List.getElem_toArray, List.getElem_cons_succ, List.getElem_cons_zero, Act.put, List.setIfInBounds_toArray, List.set_cons_zero, List.set_cons_succ]
          obtain ⟨m0, m1⟩ := cell2_of C5.out
          have f0 := frozen2_of C5.out 0
          refine wpAnyH_ready (rs := [11]) (by kernel_rfl) (by simp) ?_
          refine AllReadyH.cons rfl (fun K hK => ?_) AllReadyH.nil
          rw [if_pos (by rfl)]
          go_simp
          refine hK.out _ _ ?_ (fun hHeld => ?_)
          · exact B6.out
          clear hK K
          try simp only [List.getElem_toArray, List.getElem_cons_succ, List.getElem_cons_zero, Act.put, List.setIfInBounds_toArray, List.set_cons_zero, List.set_cons_succ]
          refine wpAnyH_done (by kernel_rfl) ?_ _
          generalize w5.setCell ⟨w.heap.size + 2, 0, none⟩ (.slice A6 (i + 1) c6) = w6 at C6 S6 B6 L6 ⊢
          clear m0 m1 f0
          go_wp2_with fail
          go_roundw
          case measure => have := HLT.out; simp [intOf]; omega
          case rel => exact ⟨i + 1, _, by have := HLT.out; omega, by go_num, C6.out, S6.out, HB.out.trans B6.out, L6.out⟩
    · obtain rfl : i = ss.length := by omega
      have hlt' : ¬ ((ss.length : Int) < ss.length) := by omega
      rw [List.take_length] at hs
      obtain ⟨zs, hzs⟩ := hs
      have SY : Hid (SecsY wr (w.heap.size + 3) (.slice A ss.length c) ss zs) := Lib.hid hzs
      obtain ⟨m, hm⟩ : ∃ m, m = wr.heap.size := ⟨_, rfl⟩
      have hslt := SY.out.lt
      rw [← hm] at hslt hqs
      have SLT := Lib.hid hslt
      have QX := Lib.hid hqs
      have QM : Hid (m ≤ wr.heap.size) := Lib.hid (Nat.le_of_eq hm)
      clear hd hb hqs hzs hlt hi hti hslt hm
      go_wp2_with fail
      clear x0 x1
      go_loopw [5] (fun s5 wx => ∃ (k : Nat) (v : Value), k ≤ ws.length ∧ s5 = .int .i64 k ∧ wx.heap[w.heap.size + 2]? = some (.cells #[.slice A ss.length c, v] 29 (0, 0)) ∧ SecsY wx (w.heap.size + 3) (.slice A ss.length c) ss zs ∧ WtsAt wx m v (ws.take k) ∧ Below (w.heap.size + 2) q wx ∧ m ≤ wx.heap.size) (fun s5 _ => ws.length - (intOf s5).toNat)
      case atStart => exact ⟨0, _, by omega, rfl, HD.out, SY.out, WtsAt.nil_ _ _, HB.out, QM.out⟩
      case round =>
        obtain ⟨k, v, hk, rfl, hd, hsy, hs, hb, hqs⟩ := hrel
        have htk : (ws.take k).length = k := by rw [List.length_take]; omega
        obtain ⟨A5, c5, hv⟩ := wts_slice hs
        rw [htk] at hv
        subst hv
        have XD := Lib.hid hd
        have XB := Lib.hid hb
        have XQ := Lib.hid hqs
        have XS := Lib.hid hsy
        have XTI := Lib.hid htk
        have XW : Hid (Below w.heap.size w wr) := Lib.hid (QB.out.trans (hb.mono (by omega)))
        have XX0 := Lib.hid ((hb.block w.heap.size (by omega)).trans Q0.out)
        obtain ⟨x0, x1⟩ := cell2_of XX0.out
        by_cases hlt : k < ws.length
        · have hlt' : (k : Int) < ws.length := by omega
          obtain ⟨ys, hown, hyl, hm, he⟩ := hs
          rw [htk] at hown
          rw [htk] at hyl
          have O := Lib.hid hown
          have YL := Lib.hid hyl
          have E := Lib.hid he
          have HLT := Lib.hid hlt
          obtain ⟨x, hse, hsl, sb, so, u, hA, hsb, hcs, hcu, ht⟩ : ∃ x, ws[k]? = some x ∧ x.2.length ≤ 1000000 ∧ ∃ sb so u, A2 = some ⟨sb, so, none⟩ ∧ sb < w.heap.size ∧ wr.cell? ⟨sb, so + k * 2, none⟩ = some (.int .i64 x.1) ∧ wr.cell? ⟨sb, so + k * 2 + 1, none⟩ = some u ∧ Txt wr w.heap.size u x.2 := ⟨ws[k], List.getElem?_eq_getElem hlt, HF.out.w _ (List.getElem_mem hlt), (H2.out.below XW.out).at hlt⟩
          subst hA
          have HT := Lib.hid ht
          obtain ⟨A3, c3, rfl, -, -, -, -⟩ := ht
          have HSE := Lib.hid hse
          have HSI := Lib.hid hsl
          obtain ⟨d0, d1⟩ := cell2_of XD.out
          clear hd hb hqs hown hyl hm he hlt htk hse hsl hsy
          go_wp2_with (first | ((with_reducible show wpList _ _ _ (⟨some 39, _, _, _, _, _⟩ :: _) _ _); refine wpList_append_txt rfl (.const (.slice none 0 0)) (.tmp 38) _ rfl Try.underlying34 J0.out J1.out J2.out J3.out rfl (World.ownsRow_nil _ (wr.heap.size + 1) _ _) rfl (show Txt _ w.heap.size _ x.2 from HT.out.below (below_new _ _ |>.mono XW.out.size)) (by have := HSI.out; omega) (by simp) ?_; intro y3 w3 hoy hgr3; rw [Nat.zero_add, List.nil_append] at hoy; obtain ⟨A7, c7, e7⟩ := own_slice_ hoy; subst e7; have ZB := (below_new wr (.cells #[.int .i64 x.1, .slice A3 x.2.length c3] 52)).grown hgr3 (by simp) (fun k hk => by cases hk); have ZC := (hgr3.block wr.heap.size (by simp) (fun e => by cases e)).trans (heap_alloc_self wr (.cells #[.int .i64 x.1, .slice A3 x.2.length c3] 52)); obtain ⟨z0, z1⟩ := cell2_of ZC; have y0 := frozen2_of ZC 1; have ZBH := Lib.hid (below_set ZB (Nat.le_refl _) 1 (.slice A7 x.2.length c7)); have ZCH := Lib.hid (heap_setB ZC (.slice A7 x.2.length c7)); have ZOH := Lib.hid (owns_setW hoy ZC (.slice A7 x.2.length c7)); obtain ⟨z2, z3⟩ := cell2_of ZCH.out; obtain ⟨z4, z5⟩ := cell2_of ((ZBH.out.block _ (heap_lt XD.out)).trans XD.out); clear hoy hgr3 ZB ZC) | ((with_reducible show wpList _ _ _ (⟨some 45, _, _, _, _, _⟩ :: _) _ _); go_must (refine wpList_append_any rfl (.tmp 42) (.tmp 44) _ rfl Try.underlying27 L0.out L1.out rfl L2.out (by decide) L3.out (by decide) rfl ((owns_below O.out ZBH.out).alloc _) (m := 1) rfl (b := w3.heap.size) (news := [.int .i64 x.1, .slice A7 x.2.length c7]) rfl (new_setW w3 wr.heap.size (.slice A7 x.2.length c7) (.int .i64 x.1) (.slice A7 x.2.length c7)) (by simp [Value.oneCell']) (by have := HLT.out; have := HF.out.m; omega) (Nat.le_trans XQ.out (Nat.le_trans ZBH.out.size (by simp))) ?_); intro v5 w5 hown5 hgrow5; have hbx := box_wtsY (p := w.heap.size + 2) (lo := w.heap.size + 3) (ws := ws.take k) (x := x) (by omega) (by have := QX.out; omega) XD.out (by rw [XTI.out]; exact O.out) (by rw [XTI.out]; exact YL.out) E.out XS.out XQ.out ZBH.out (owns_mono ZOH.out (Nat.le_succ _)) (by have := HSI.out; unfold maxLen; omega) (by rw [XTI.out]; have := HLT.out; have := HF.out.m; unfold maxLen; omega) (by rw [XTI.out]; exact hown5) hgrow5; obtain ⟨hc5, hb5, hc6, hs6, hw6, hb6, hl6⟩ := hbx; rw [show ws.take k ++ [x] = ws.take (k + 1) from by rw [List.take_add_one, HSE.out]; rfl] at hw6; obtain ⟨A6, c6, h6⟩ := own_slice2_ hown5; subst h6; obtain ⟨m0, m1⟩ := cell2_of hc5; have f0 := frozen2_of hc5 1; have C6 := Lib.hid hc6; have S6 := Lib.hid hs6; have W6 := Lib.hid hw6; have B6 := Lib.hid hb6; have L6 := Lib.hid hl6; clear hown5 hgrow5 hc5 hb5 hc6 hs6 hw6 hb6 hl6 z0 z1 z2 z3 z4 z5))
          go_roundw
          case measure => have := HLT.out; simp [intOf]; omega
          case rel => exact ⟨k + 1, _, by have := HLT.out; omega, by go_num, C6.out, S6.out, W6.out, XB.out.trans B6.out, L6.out⟩
        · obtain rfl : k = ws.length := by omega
          have hlt' : ¬ ((ws.length : Int) < ws.length) := by omega
          rw [List.take_length] at hs
          have WS := Lib.hid hs
          obtain ⟨d0, d1⟩ := cell2_of hd
          have R1 := Lib.hid ((hb.block (w.heap.size + 1) (by omega)).trans Q1.out)
          obtain ⟨r0, r1⟩ := cell2_of R1.out
          have f0 := frozen2_of R1.out 0
          have f1 := frozen2_of R1.out 1
          clear hd hb hqs hs hlt hk htk hsy
          go_wp2_with fail
          have hgr := grown_set2 wr (w.heap.size + 1) (.slice A ss.length c) (.slice A5 ws.length c5)
          have hY := XS.out.grown hgr (by omega)
          refine bodyPost_ret (v := .agg #[.slice A ss.length c, .slice A5 ws.length c5]) ?_ rfl ⟨_, _, rfl, ?_, m, ?_, ?_, hY.cell_lt SLT.out, ?_, ?_⟩
          · exact results_cell_2 rfl _ _ (w.heap.size + 1) rfl (heap_set2 R1.out _ _) Try.underlying29 infoDisk2
          · exact hY.at_.mono (by omega)
          · exact wts_grown WS.out hgr (by have := QX.out; omega)
          · have := QX.out; omega
          · exact XW.out.trans ((Below.refl _ _).grown hgr XW.out.size (fun k hk => by cases hk; omega))
          · exact Nat.le_trans XQ.out hgr.size
end Go.Proofs.Ytdjoflhcagfmiaa
