/-
  The document's own functions Whole, Find, Same.
  Conditions: none.
-/
import Derived.Test.YtdjoflhcagfmiaaSixWhole
import Derived.Test.YtdjoflhcagfmiaaMFind
import Derived.Test.YtdjoflhcagfmiaaMRef
import Derived.BigQuiet
import Derived.Deep.CutRange
set_option linter.unusedVariables false
set_option linter.unusedSimpArgs false
set_option maxRecDepth 100000
namespace Go.Proofs.Ytdjoflhcagfmiaa
open Go.RowKit

theorem wholeR_lt {S : List Bs} {k g : Nat} {t : Bs} (hl : S.length = 16) (h128 : ∀ s ∈ S, s.length = 128) (h : wholeR S k = some (g, t)) : g < 4294967296 ∧ t.length ≤ 1882 := by
  have := (wholeR_iff hl h128).1 h
  exact ⟨this.1.2.1, this.1.2.2⟩
/-- A slot's record as the box holds it. -/
def RefBox (W : World) (p : Nat) (r : Option (Nat × Bs)) : Prop :=
  ∃ (g : Nat) (A : Option Addr) (n c : Nat), W.heap[p]? = some (.cells #[.int .u32 (g : Int), .slice A n c] 36 (0, 0)) ∧ ∀ x, r = some x → x.1 = g ∧ Txt W W.heap.size (.slice A n c) x.2 ∧ x.2.length = n
theorem RefBox.below {W W' : World} {p : Nat} {r : Option (Nat × Bs)} (h : RefBox W p r) (hb : Below W.heap.size W W') : RefBox W' p r := by
  obtain ⟨g, A, n, c, hx, ht⟩ := h
  exact ⟨g, A, n, c, (hb.block _ (heap_lt hx)).trans hx, fun x hr => ⟨(ht x hr).1, ((ht x hr).2.1.below hb).more hb.size, (ht x hr).2.2⟩⟩
theorem said_box {W : World} {r : Option (Nat × Bs)} {e : Ending} (h : RefSaid W r e) : ∃ (g : Nat) (A : Option Addr) (n c : Nat), e = .returned (.tuple #[.agg #[.int .u32 (g : Int), .slice A n c], .bool r.isSome]) ∧ ∀ x, r = some x → x.1 = g ∧ Txt W W.heap.size (.slice A n c) x.2 ∧ x.2.length = n := by
  cases r with
  | none => exact ⟨0, none, 0, 0, h, fun x hx => by cases hx⟩
  | some x =>
    obtain ⟨g, t⟩ := x
    obtain ⟨A, c, rfl, ht⟩ := h
    exact ⟨g, A, _, c, rfl, fun x hx => by cases hx; exact ⟨rfl, ht, rfl⟩⟩
theorem recsIn_nil (W : World) (B : Nat) : RecsIn W B (.slice none 0 0) [] := ⟨none, 0, rfl, by simp, fun h => absurd h (by simp)⟩
theorem recsIn_of {W : World} {lo : Nat} {v : Value} {rs : List Rc} {us : List Value} (ho : W.ownsRow lo 36 2 v rs.length (rcells rs us)) (hl : us.length = rs.length) (hm : rs.length ≤ maxLen)
    (ht : ∀ (j : Nat) (u : Value) (r : Rc), us[j]? = some u → rs[j]? = some r → Txt W W.heap.size u r.2) : RecsIn W W.heap.size v rs := by
  have ho' := ho
  rcases ho.2 with ⟨rfl, h0⟩ | ⟨g, cap, cur, rfl, _, hgb, hcap, hcur⟩
  · exact ⟨none, 0, by rw [h0], hm, fun h => absurd h (by omega)⟩
  · refine ⟨_, cap, rfl, hm, fun _ => ⟨g, 0, rfl, (Array.getElem?_eq_some_iff.1 hgb).1, fun j hj => ?_⟩⟩
    have hr : rs[j]? = some rs[j] := List.getElem?_eq_getElem hj
    have hy : us[j]? = some us[j] := List.getElem?_eq_getElem (by omega)
    obtain ⟨c1, c2⟩ := rcells_at rs us j _ _ hr hy
    refine ⟨us[j], ?_, ?_, ht j _ _ hy hr⟩
    · rw [Nat.zero_add, ho'.cellAt (j * 2) (by omega), c1]
    · rw [Nat.zero_add, ho'.cellAt (j * 2 + 1) (by omega), c2]
theorem recs_one {W : World} {lo : Nat} {v u : Value} {r : Rc} (ho : W.ownsRow lo 36 2 v 1 [.int .u32 (r.1 : Int), u]) (ht : Txt W W.heap.size u r.2) : RecsIn W W.heap.size v [r] :=
  recsIn_of (rs := [r]) (us := [u]) ho rfl (by unfold maxLen; simp) (fun j u' r' h1 h2 => by
    match j with
    | 0 => cases h1; cases h2; exact ht
    | j + 1 => simp at h1)
theorem recs_two {W : World} {lo : Nat} {v u u' : Value} {r r' : Rc} (ho : W.ownsRow lo 36 2 v 2 [.int .u32 (r.1 : Int), u, .int .u32 (r'.1 : Int), u']) (ht : Txt W W.heap.size u r.2) (ht' : Txt W W.heap.size u' r'.2) : RecsIn W W.heap.size v [r, r'] :=
  recsIn_of (rs := [r, r']) (us := [u, u']) ho rfl (by unfold maxLen; simp) (fun j x y h1 h2 => by
    match j with
    | 0 => cases h1; cases h2; exact ht
    | 1 => cases h1; cases h2; exact ht'
    | j + 2 => simp at h1)
theorem recs_block {W : World} {b : Nat} {u u' : Value} {r r' : Rc} (h : W.heap[b]? = some (.cells #[.int .u32 (r.1 : Int), u, .int .u32 (r'.1 : Int), u'] 36 (0, 0))) (ht : Txt W W.heap.size u r.2) (ht' : Txt W W.heap.size u' r'.2) : RecsIn W W.heap.size (.slice (some ⟨b, 0, none⟩) 2 2) [r, r'] :=
  recs_two (lo := 0) ⟨rfl, .inr ⟨b, 2, _, rfl, Nat.zero_le _, h, Nat.le_refl _, by unfold maxLen; omega, by simp, rfl⟩⟩ ht ht'

set_option maxHeartbeats 8000000 in
theorem rwholes_any (d : Value) (ss : List Bs) (ws : List Wr) (hm : May ss ws) (w : World) (h : DiskIn w w.heap.size d ss ws) :
    Calls Try.prog 42 #[d] w fun e w' => ∃ v, e = .returned v ∧ RecsIn w' w'.heap.size v (findL (viewL ss ws)) ∧ Below w.heap.size w w' := by
  obtain ⟨v1, v2, rfl, h1, h2⟩ := id h
  obtain ⟨i1, hi, hz0, hz1, hz2⟩ := info_parts infoRec
  have K0 := Lib.hid hi
  have K1 := Lib.hid hz0
  have K2 := Lib.hid hz1
  have K3 := Lib.hid hz2
  clear hi hz0 hz1 hz2
  have H := Lib.hid h
  have HM := Lib.hid hm
  obtain ⟨A1, c1, rfl, -, -, -, -⟩ := h1
  obtain ⟨A2, c2, rfl, -, -, -, -⟩ := h2
  have qb := below_new w (.cells #[.slice A1 ss.length c1, .slice A2 ws.length c2] 29)
  have q0 := heap_alloc_self w (.cells #[.slice A1 ss.length c1, .slice A2 ws.length c2] 29)
  have hf : findL (viewL ss ws) = sortL ((wholeR (slotS (viewL ss ws) 0) 0).toList ++ (wholeR (slotS (viewL ss ws) 16) 16).toList) := rfl
  have hw1 := rwhole_any (.agg #[.slice A1 ss.length c1, .slice A2 ws.length c2]) ss ws 0 (.inl rfl) hm
  have hw2 := rwhole_any (.agg #[.slice A1 ss.length c1, .slice A2 ws.length c2]) ss ws 16 (.inr rfl) hm
  have hV := viewL_may hm
  have hr1 : ∀ x, wholeR (slotS (viewL ss ws) 0) 0 = some x → x.1 < 4294967296 ∧ x.2.length ≤ 1882 := fun x hx => wholeR_lt (k := 0) (slotS_length hV.n (by omega)) (slotS_128 hV.s) hx
  have hr2 : ∀ x, wholeR (slotS (viewL ss ws) 16) 16 = some x → x.1 < 4294967296 ∧ x.2.length ≤ 1882 := fun x hx => wholeR_lt (k := 16) (slotS_length hV.n (by omega)) (slotS_128 hV.s) hx
  rw [hf]
  generalize wholeR (slotS (viewL ss ws) 0) 0 = r1 at hw1 hr1 ⊢
  generalize wholeR (slotS (viewL ss ws) 16) 16 = r2 at hw2 hr2 ⊢
  have W1 := Lib.hid hw1
  have W2 := Lib.hid hw2
  have R1 := Lib.hid hr1
  have R2 := Lib.hid hr2
  clear h hm hf hw1 hw2 hV hr1 hr2
  go_enter Try.func42, Try.ntmps42
  go_wp2_with fail
  generalize w.alloc (.cells #[.slice A1 ss.length c1, .slice A2 ws.length c2] 29) = q at q0 qb ⊢
  have QB := Lib.hid qb
  refine (W1.out q ((H.out.below QB.out).more QB.out.size)).mono ?_
  rintro e wA ⟨hsaid, b1⟩
  obtain ⟨g3, A3, n3, c3, rfl, ht3⟩ := said_box hsaid
  have X0 := Lib.hid ((b1.block _ (heap_lt q0)).trans q0)
  have B1 := Lib.hid (QB.out.trans (b1.mono QB.out.size))
  have T3 := Lib.hid ht3
  clear hsaid b1 ht3 q0 qb
  have hy0 := heap_alloc_self wA (.cells #[.int .u32 (g3 : Int), .slice A3 n3 c3] 36)
  have hyb := below_new wA (.cells #[.int .u32 (g3 : Int), .slice A3 n3 c3] 36)
  obtain ⟨k0, k1⟩ := cell2_of ((hyb.block _ (heap_lt X0.out)).trans X0.out)
  go_wp2_with fail
  obtain ⟨q3, hq3, q30, q3b⟩ : ∃ q3, q3 = wA.alloc (.cells #[.int .u32 (g3 : Int), .slice A3 n3 c3] 36) ∧ q3.heap[wA.heap.size]? = some (.cells #[.int .u32 (g3 : Int), .slice A3 n3 c3] 36 (0, 0)) ∧ Below wA.heap.size wA q3 := ⟨_, rfl, hy0, hyb⟩
  rw [← hq3]
  have B3 := Lib.hid (B1.out.trans (q3b.mono B1.out.size))
  have T4 := Lib.hid (fun x hx => (⟨(T3.out x hx).1, ((T3.out x hx).2.1.below q3b).more q3b.size, (T3.out x hx).2.2⟩ : x.1 = g3 ∧ Txt q3 q3.heap.size (.slice A3 n3 c3) x.2 ∧ x.2.length = n3))
  clear hy0 hyb hq3 k0 k1
  refine (W2.out q3 ((H.out.below B3.out).more B3.out.size)).mono ?_
  rintro e wB ⟨hsaid, b2⟩
  obtain ⟨g5, A5, n5, c5, rfl, ht5⟩ := said_box hsaid
  have hy0 := heap_alloc_self wB (.cells #[.int .u32 (g5 : Int), .slice A5 n5 c5] 36)
  have hyb := below_new wB (.cells #[.int .u32 (g5 : Int), .slice A5 n5 c5] 36)
  obtain ⟨q5, hq5, q50, q5b⟩ : ∃ q5, q5 = wB.alloc (.cells #[.int .u32 (g5 : Int), .slice A5 n5 c5] 36) ∧ q5.heap[wB.heap.size]? = some (.cells #[.int .u32 (g5 : Int), .slice A5 n5 c5] 36 (0, 0)) ∧ Below wB.heap.size wB q5 := ⟨_, rfl, hy0, hyb⟩
  have b35 : Below q3.heap.size q3 q5 := b2.trans (q5b.mono b2.size)
  have B5 := Lib.hid (B3.out.trans (b35.mono B3.out.size))
  have TX3 := Lib.hid (fun x hx => (⟨(T4.out x hx).1, ((T4.out x hx).2.1.below b35).more b35.size, (T4.out x hx).2.2⟩ : x.1 = g3 ∧ Txt q5 q5.heap.size (.slice A3 n3 c3) x.2 ∧ x.2.length = n3))
  have TX5 := Lib.hid (fun x hx => (⟨(ht5 x hx).1, ((ht5 x hx).2.1.below q5b).more q5b.size, (ht5 x hx).2.2⟩ : x.1 = g5 ∧ Txt q5 q5.heap.size (.slice A5 n5 c5) x.2 ∧ x.2.length = n5))
  have P3 := Lib.hid ((b35.block _ (heap_lt q30)).trans q30)
  have P5 := Lib.hid q50
  obtain ⟨k0, k1⟩ := cell2_of P3.out
  obtain ⟨m0, m1⟩ := cell2_of P5.out
  clear hsaid b2 ht5 hy0 hyb q30 q3b b35 q50 q5b T3 T4 W1 W2
  go_upto_region 3 with fail
  rw [← hq5]
  clear hq5
  cases r1 with
  | none =>
    cases r2 with
    | none =>
      go_wp2_with fail
      go_ret
      exact ⟨_, rfl, recsIn_nil _ _, B5.out⟩
    | some y =>
      obtain ⟨hg, hty, hny⟩ := TX5.out y rfl
      have TY := Lib.hid hty
      have HGY := Lib.hid hg
      clear hg hty hny
      go_wp2_with ((with_reducible show wpList _ _ _ (⟨some 41, _, _, _, _, _⟩ :: _) _ _); refine wpList_append_any rfl (.tmp 38) (.tmp 40) _ rfl Try.underlying22 K0.out K1.out rfl K2.out (by decide) K3.out (by decide) rfl (World.ownsRow_nil _ q5.heap.size _ _) (m := 1) rfl (news := [.int .u32 (g5 : Int), .slice A5 n5 c5]) rfl (fun j u hj => by rw [World.cell?_alloc_new]; simpa using hj) (by simp [Value.oneCell']) (by omega) (by simp) ?_; intro v7 w7 hown7 hgrow7; obtain ⟨A7, c7, rfl⟩ := own_sliceN hown7)
      go_ret
      have b7 : Below q5.heap.size q5 w7 := (below_new q5 _).grown hgrow7 (by simp) (fun k hk => by cases hk)
      refine ⟨_, rfl, recs_one (r := y) (lo := q5.heap.size) (by rw [HGY.out]; exact hown7) ((TY.out.below b7).more b7.size), B5.out.trans (b7.mono B5.out.size)⟩
  | some x =>
    obtain ⟨hg, htx, hnx⟩ := TX3.out x rfl
    have TX := Lib.hid htx
    have HGX := Lib.hid hg
    clear hg htx hnx
    cases r2 with
    | none =>
      go_wp2_with ((with_reducible show wpList _ _ _ (⟨some 36, _, _, _, _, _⟩ :: _) _ _); refine wpList_append_any rfl (.tmp 33) (.tmp 35) _ rfl Try.underlying22 K0.out K1.out rfl K2.out (by decide) K3.out (by decide) rfl (World.ownsRow_nil _ q5.heap.size _ _) (m := 1) rfl (news := [.int .u32 (g3 : Int), .slice A3 n3 c3]) rfl (fun j u hj => by rw [World.cell?_alloc_new]; simpa using hj) (by simp [Value.oneCell']) (by omega) (by simp) ?_; intro v7 w7 hown7 hgrow7; obtain ⟨A7, c7, rfl⟩ := own_sliceN hown7)
      go_ret
      have b7 : Below q5.heap.size q5 w7 := (below_new q5 _).grown hgrow7 (by simp) (fun k hk => by cases hk)
      refine ⟨_, rfl, recs_one (r := x) (lo := q5.heap.size) (by rw [HGX.out]; exact hown7) ((TX.out.below b7).more b7.size), B5.out.trans (b7.mono B5.out.size)⟩
    | some y =>
      obtain ⟨hg, hty, hny⟩ := TX5.out y rfl
      have TY := Lib.hid hty
      have HGY := Lib.hid hg
      clear hg hty hny
      by_cases hlt : x.1 < y.1
      · have hlt' : (g3 : Int) < g5 := by have := HGX.out; have := HGY.out; omega
        have HS : Hid (sortL ((some x).toList ++ (some y).toList) = [y, x]) := Lib.hid (by simp [sortL, hlt])
        clear hlt
        go_wp2_with fail
        go_ret
        have hbk := heap_alloc_self q5 (.cells #[.int .u32 (g5 : Int), .slice A5 n5 c5, .int .u32 (g3 : Int), .slice A3 n3 c3] 36)
        have hbb := below_new q5 (.cells #[.int .u32 (g5 : Int), .slice A5 n5 c5, .int .u32 (g3 : Int), .slice A3 n3 c3] 36)
        generalize q5.alloc (.cells #[.int .u32 (g5 : Int), .slice A5 n5 c5, .int .u32 (g3 : Int), .slice A3 n3 c3] 36) = w7 at hbk hbb ⊢
        refine ⟨_, rfl, ?_, B5.out.trans (hbb.mono B5.out.size)⟩
        rw [HS.out]
        rw [← HGX.out, ← HGY.out] at hbk
        exact recs_block hbk ((TY.out.below hbb).more hbb.size) ((TX.out.below hbb).more hbb.size)
      · have hlt' : ¬ (g3 : Int) < g5 := by have := HGX.out; have := HGY.out; omega
        have HS : Hid (sortL ((some x).toList ++ (some y).toList) = [x, y]) := Lib.hid (by simp [sortL, hlt])
        clear hlt
        go_wp2_with (first | ((with_reducible show wpList _ _ _ (⟨some 36, _, _, _, _, _⟩ :: _) _ _); refine wpList_append_any rfl (.tmp 33) (.tmp 35) _ rfl Try.underlying22 K0.out K1.out rfl K2.out (by decide) K3.out (by decide) rfl (World.ownsRow_nil _ q5.heap.size _ _) (m := 1) rfl (news := [.int .u32 (g3 : Int), .slice A3 n3 c3]) rfl (fun j u hj => by rw [World.cell?_alloc_new]; simpa using hj) (by simp [Value.oneCell']) (by omega) (by simp) ?_; intro v7 w7 hown7 hgrow7; obtain ⟨A7, c7, rfl⟩ := own_sliceN hown7; have O7 := Lib.hid hown7; have B7 : Hid (Below q5.heap.size q5 w7) := Lib.hid ((below_new q5 _).grown hgrow7 (by simp) (fun k hk => by cases hk)); clear hown7 hgrow7; obtain ⟨r0, r1⟩ := cell2_of ((B7.out.block _ (heap_lt P5.out)).trans P5.out)) | ((with_reducible show wpList _ _ _ (⟨some 41, _, _, _, _, _⟩ :: _) _ _); refine wpList_append_any rfl (.tmp 38) (.tmp 40) _ rfl Try.underlying22 K0.out K1.out rfl K2.out (by decide) K3.out (by decide) rfl (O7.out.alloc _) (m := 1) rfl (news := [.int .u32 (g5 : Int), .slice A5 n5 c5]) rfl (fun j u hj => by rw [World.cell?_alloc_new]; simpa using hj) (by simp [Value.oneCell']) (by omega) (by have := B7.out.size; simp; omega) ?_; intro v9 w9 hown9 hgrow9; obtain ⟨A9, c9, rfl⟩ := own_sliceN hown9; have O9 := Lib.hid hown9; have B9 : Hid (Below q5.heap.size q5 w9) := Lib.hid ((B7.out.alloc B7.out.size _).grown hgrow9 (Nat.le_trans B7.out.size (by simp)) (fun k hk => own_ge O7.out k hk)); clear hown9 hgrow9))
        go_ret
        refine ⟨_, rfl, ?_, B5.out.trans (B9.out.mono B5.out.size)⟩
        refine (show RecsIn w9 w9.heap.size (.slice A9 2 c9) (sortL ((some x).toList ++ (some y).toList)) from ?_)
        rw [HS.out]
        exact recs_two (r := x) (r' := y) (lo := q5.heap.size) (by rw [HGX.out, HGY.out]; exact O9.out) ((TX.out.below B9.out).more B9.out.size) ((TY.out.below B9.out).more B9.out.size)

theorem find_not {ss : List Bs} {ws : List Wr} (h : mayB ss ws = false) : findR ss ws = [] := by rw [findR, h]; rfl
set_option maxHeartbeats 4000000 in
theorem rfind6_any (d : Value) (ss : List Bs) (ws : List Wr) (w : World) (h : DiskIn w w.heap.size d ss ws) :
    Calls Try.prog 18 #[d] w fun e w' => ∃ v, e = .returned (.tuple #[v, .int .i64 (syncE ss ws)]) ∧ RecsIn w' w'.heap.size v (findR ss ws) ∧ Below w.heap.size w w' := by
  obtain ⟨v1, v2, rfl, h1, h2⟩ := id h
  have H := Lib.hid h
  obtain ⟨A1, c1, rfl, -, -, -, -⟩ := h1
  obtain ⟨A2, c2, rfl, -, -, -, -⟩ := h2
  have qb := below_new w (.cells #[.slice A1 ss.length c1, .slice A2 ws.length c2] 29)
  have q0 := heap_alloc_self w (.cells #[.slice A1 ss.length c1, .slice A2 ws.length c2] 29)
  clear h
  go_enter Try.func18, Try.ntmps18
  go_wp2_with fail
  generalize w.alloc (.cells #[.slice A1 ss.length c1, .slice A2 ws.length c2] 29) = q at q0 qb ⊢
  have QB := Lib.hid qb
  refine (rmay_any _ ss ws q ((H.out.below QB.out).more QB.out.size)).mono ?_
  rintro e w1 ⟨rfl, b1⟩
  have B1 := Lib.hid (QB.out.trans (b1.mono QB.out.size))
  obtain ⟨k0, k1⟩ := cell2_of ((b1.block _ (heap_lt q0)).trans q0)
  clear q0 qb b1
  cases hm : mayB ss ws with
  | false =>
    have hE : syncE ss ws = 8 := by rw [syncE, hm]; rfl
    have HE := Lib.hid hE
    have HF := Lib.hid (find_not hm)
    clear hm hE
    go_wp2_with fail
    refine bodyPost_ret (results_tmp2 rfl _ _ _) rfl ?_
    exact ⟨.slice none 0 0, by rw [HE.out]; rfl, by rw [HF.out]; exact recsIn_nil _ _, B1.out⟩
  | true =>
    have hM := mayB_iff.1 hm
    have HE := Lib.hid (sync0 hM)
    have HM := Lib.hid hM
    have HF := Lib.hid (findR_may hM)
    clear hm hM
    go_wp2_with fail
    refine (rwholes_any _ ss ws HM.out w1 ((H.out.below B1.out).more B1.out.size)).mono ?_
    rintro e w2 ⟨v, rfl, hr, b2⟩
    have B2 := Lib.hid (B1.out.trans (b2.mono B1.out.size))
    have HR := Lib.hid hr
    obtain ⟨A7, c7, rfl, -⟩ := hr
    clear k0 k1 b2
    go_wp2_with fail
    refine bodyPost_ret (results_tmp2 rfl _ _ _) rfl ?_
    exact ⟨_, by rw [HE.out]; rfl, by rw [HF.out]; exact HR.out, B2.out⟩
end Go.Proofs.Ytdjoflhcagfmiaa
