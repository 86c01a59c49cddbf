/-
  The statements' own functions: a record is found; whether two records are the same; whether one is among some.
  Conditions: none.
-/
import Derived.Test.YtdjoflhcagfmiaaSlotFindM
import Derived.BigQuiet
import Derived.Deep.QuietTactic
set_option linter.unusedVariables false
set_option linter.unusedSimpArgs false
set_option maxRecDepth 100000
namespace Go.Proofs.Ytdjoflhcagfmiaa
open Go.RowKit

theorem ok3 : okR 3 [] := ⟨by decide, by decide, by simp⟩
theorem put3 : putE newD [] 3 [] = 0 := by rw [putE, mayB_iff.2 may_new]; rfl
theorem put3S : putS newD [] 3 [] = newD := by rw [putS, put3, if_pos rfl]
theorem put3W : putW newD [] 3 [] = [(((16 : Nat) : Int), secR 3 (bodyR 3 []) 0)] := by rw [putW, put3, if_pos rfl]; rfl
theorem may3 : May newD [(((16 : Nat) : Int), secR 3 (bodyR 3 []) 0)] := by
  have := put_may (g := 3) (t := []) may_new (by simp) (by decide)
  exact this
theorem halfNew (k : Nat) (hk : k = 0 ∨ k = 16) : halfL (viewL newD []) k = [] := by
  have hv : viewL newD [] = newD := rfl
  have hg : genS (slotS newD k) = 0 := by
    rcases hk with rfl | rfl <;> decide
  rw [hv, halfL_def, wholeR, toldR, hg, if_pos (.inl rfl)]; rfl
theorem find3 : findR newD [(((16 : Nat) : Int), secR 3 (bodyR 3 []) 0)] = [((3 : Nat), ([] : Bs))] := by
  have h1 : halfL (viewL newD ([] ++ putWs 3 [])) (slotN 3) = [((3 : Nat), ([] : Bs))] := put_whole may_new ok3 (by decide)
  have h2 : halfL (viewL newD ([] ++ putWs 3 [])) (16 - slotN 3) = halfL (viewL newD []) (16 - slotN 3) := put_otherL may_new ok3 (by decide)
  have e1 : slotN 3 = 16 := rfl
  have e2 : ([] : List Wr) ++ putWs 3 [] = [(((16 : Nat) : Int), secR 3 (bodyR 3 []) 0)] := rfl
  rw [e1, e2] at h1 h2
  rw [findR_may may3, findL, h1, show (0 : Nat) = 16 - 16 from rfl, h2, halfNew _ (.inl rfl)]
  rfl
theorem find0 : findR newD [] = [] := by
  rw [findR_may may_new, findL, halfNew 0 (.inl rfl), halfNew 16 (.inr rfl)]; rfl
theorem sync0 {ss : List Bs} {ws : List Wr} (h : May ss ws) : syncE ss ws = 0 := by rw [syncE, mayB_iff.2 h]; rfl
theorem six3 : (secR 3 (bodyR 3 []) 0).take 6 = [3, 0, 0, 0, 0, 1] := rfl

set_option maxHeartbeats 4000000 in
theorem alive6 (w : World) : Calls Try.prog 13 #[] w fun e w' => e = .returned (.bool true) ∧ Below w.heap.size w w' := by
  go_enter Try.func13, Try.ntmps13
  go_wp2_with fail
  refine (new_any w).mono ?_
  rintro e w1 ⟨v1, rfl, hs, b1⟩
  have D1 : Hid (DiskIn w1 w1.heap.size (.agg #[v1, .slice none 0 0]) newD []) := Lib.hid ⟨_, _, rfl, hs.in_, WtsIn.nil_⟩
  have B1 := Lib.hid b1
  obtain ⟨A1, c1, rfl⟩ := secs_slice hs
  clear hs b1
  go_wp2_with fail
  refine (sput_any _ _ newD [] 3 [] (by omega) w1 D1.out (Txt.nil_ _ _)).mono ?_
  rintro e w2 ⟨d2, rfl, hd, b2⟩
  rw [put3]
  rw [put3S, put3W] at hd
  have D2 := Lib.hid hd
  have B2 := Lib.hid (B1.out.trans (b2.mono B1.out.size))
  obtain ⟨z1, z2, rfl, hz1, hz2⟩ := hd
  obtain ⟨A2, n2, c2, rfl⟩ := secs_any hz1
  obtain ⟨A3, c3, rfl⟩ := wts_slice hz2
  clear b2 hz1 hz2
  have hq := heap_alloc_self w2 (.cells #[.slice A2 n2 c2, .slice A3 1 c3] 29)
  have hqb := below_new w2 (.cells #[.slice A2 n2 c2, .slice A3 1 c3] 29)
  go_wp2_with fail
  generalize w2.alloc (.cells #[.slice A2 n2 c2, .slice A3 1 c3] 29) = q at hq hqb ⊢
  have hdq : DiskIn q q.heap.size (.agg #[.slice A2 n2 c2, .slice A3 1 c3]) newD [(((16 : Nat) : Int), secR 3 (bodyR 3 []) 0)] := (D2.out.in_.below hqb).more hqb.size
  have DQ := Lib.hid hdq
  refine (sfind_any _ _ _ q hdq).mono ?_
  rintro e w3 ⟨v3, rfl, hr, b3⟩
  rw [sync0 may3]
  rw [find3] at hr
  have B3 := Lib.hid (B2.out.trans ((hqb.trans (b3.mono hqb.size)).mono B2.out.size))
  have hd3 := (b3.block _ (heap_lt hq)).trans hq
  obtain ⟨d0, d1⟩ := cell2_of hd3
  have hd4 := hdq.below b3
  obtain ⟨z1, z2, ez, _, hw⟩ := hd4
  cases ez
  obtain ⟨b8, o8, u8', e8, hb8, hc8, hc9, ht8⟩ := hw.at (j := 0) (by simp)
  subst e8
  have ht8' : Txt w3 q.heap.size u8' (secR 3 (bodyR 3 []) 0) := ht8
  have hl8 : (secR 3 (bodyR 3 []) 0).length = 128 := secR_length _ _ _
  obtain ⟨A8, c8, rfl, hc8l, -, -, -⟩ := id ht8'
  rw [hl8] at hc9 ht8' hc8l
  have hcut : Txt w3 q.heap.size (.slice A8 6 c8) [3, 0, 0, 0, 0, 1] := by
    have h := ht8'
    rw [← hl8] at h
    have := h.cut (k := 6) (by rw [hl8]; omega)
    rwa [six3] at this
  have hconv := run_txt_string hcut
  obtain ⟨us, ho, hu, hm, ht⟩ := hr
  obtain ⟨u9, rfl⟩ : ∃ u, us = [u] := by
    match us, hu with
    | [u], _ => exact ⟨u, rfl⟩
  have ht9 := ht 0 u9 ((3 : Nat), ([] : Bs)) rfl rfl
  obtain ⟨b9, o9, c9, cs9, rfl, -⟩ := ht9
  rcases ho.2 with ⟨_, h2⟩ | ⟨br, cr, cur, er, hlor, hgr, hcr, hmr, hsr, htr⟩
  · simp at h2
  subst er
  have hk : ∀ j v, [Value.int .u32 3, .slice (some ⟨b9, o9, none⟩) 0 c9][j]? = some v → w3.cell? ⟨br, j, none⟩ = some v := fun j v hj => by
    have h := ho.cellAt j (by have := (List.getElem?_eq_some_iff.1 hj).1; simpa using this)
    rw [h]; exact hj
  have k0 := hk 0 _ rfl
  have k1 := hk 1 _ rfl
  have hc8i : (6 : Int) ≤ c8 := by omega
  have hc8a : w3.cell? ⟨b8, o8, none⟩ = some (.int .i64 16) := hc8
  have hc8b : w3.cell? ⟨b8, o8 + 1, none⟩ = some (.slice A8 128 c8) := by simpa using hc9
  clear hq hqb hdq b3 hd3 hw hb8 hc8 hc9 ht8 ht8' hcut ho hu hm ht hgr hsr htr hk hlor hcr hmr
  go_wp2_with fail
  go_ret
  exact ⟨rfl, B3.out⟩

/-- A record, as a value. -/
def RcIn (W : World) (B : Nat) (v : Value) (r : Rc) : Prop := ∃ u, v = .agg #[.int .u32 (r.1 : Int), u] ∧ Txt W B u r.2
theorem RcIn.below {W W' : World} {B : Nat} {v : Value} {r : Rc} (h : RcIn W B v r) (hb : Below B W W') : RcIn W' B v r := by
  obtain ⟨u, rfl, h⟩ := h
  exact ⟨u, rfl, h.below hb⟩
theorem RcIn.more {W : World} {B B' : Nat} {v : Value} {r : Rc} (h : RcIn W B v r) (hb : B ≤ B') : RcIn W B' v r := by
  obtain ⟨u, rfl, h⟩ := h
  exact ⟨u, rfl, h.more hb⟩
/-- A list of records, as a slice reads. -/
def RecsIn (W : World) (B : Nat) (v : Value) (rs : List Rc) : Prop :=
  ∃ (A : Option Addr) (cap : Nat), v = .slice A rs.length cap ∧ rs.length ≤ maxLen ∧
    (0 < rs.length → ∃ b off, A = some ⟨b, off, none⟩ ∧ b < B ∧ ∀ j (h : j < rs.length), ∃ u, W.cell? ⟨b, off + j * 2, none⟩ = some (.int .u32 ((rs[j]).1 : Int)) ∧ W.cell? ⟨b, off + j * 2 + 1, none⟩ = some u ∧ Txt W B u (rs[j]).2)
theorem RecsIn.below {W W' : World} {B : Nat} {v : Value} {rs : List Rc} (h : RecsIn W B v rs) (hb : Below B W W') : RecsIn W' B v rs := by
  obtain ⟨A, cap, h0, h1, h3⟩ := h
  refine ⟨A, cap, h0, h1, fun hp => ?_⟩
  obtain ⟨b, off, ha, hlt, hc⟩ := h3 hp
  refine ⟨b, off, ha, hlt, fun j hj => ?_⟩
  obtain ⟨u, hi, hu, ht⟩ := hc j hj
  exact ⟨u, (hb.cell (p := ⟨b, _, none⟩) hlt).trans hi, (hb.cell (p := ⟨b, _, none⟩) hlt).trans hu, ht.below hb⟩
theorem RecsIn.more {W : World} {B B' : Nat} {v : Value} {rs : List Rc} (h : RecsIn W B v rs) (hB : B ≤ B') : RecsIn W B' v rs := by
  obtain ⟨A, cap, h0, h1, h3⟩ := h
  refine ⟨A, cap, h0, h1, fun hp => ?_⟩
  obtain ⟨b, off, ha, hlt, hc⟩ := h3 hp
  refine ⟨b, off, ha, by omega, fun j hj => ?_⟩
  obtain ⟨u, hi, hu, ht⟩ := hc j hj
  exact ⟨u, hi, hu, ht.more hB⟩
theorem rcells_at : ∀ (rs : List Rc) (us : List Value) (j : Nat) (r : Rc) (u : Value), rs[j]? = some r → us[j]? = some u → (rcells rs us)[j * 2]? = some (.int .u32 (r.1 : Int)) ∧ (rcells rs us)[j * 2 + 1]? = some u
  | [], _, j, r, u, h, _ => by simp at h
  | r0 :: rs, [], j, r, u, _, h => by simp at h
  | r0 :: rs, u0 :: us, 0, r, u, h, h' => by simp at h h'; subst h h'; exact ⟨rfl, rfl⟩
  | r0 :: rs, u0 :: us, j + 1, r, u, h, h' => by
    have := rcells_at rs us j r u (by simpa using h) (by simpa using h')
    show (Value.int .u32 (r0.1 : Int) :: u0 :: rcells rs us)[(j + 1) * 2]? = _ ∧ (Value.int .u32 (r0.1 : Int) :: u0 :: rcells rs us)[(j + 1) * 2 + 1]? = _
    rw [show (j + 1) * 2 = j * 2 + 1 + 1 from by omega]
    simpa using this
theorem rcells_length : ∀ (rs : List Rc) (us : List Value), us.length = rs.length → (rcells rs us).length = 2 * rs.length
  | [], [], _ => rfl
  | r :: rs, u :: us, h => by
    have := rcells_length rs us (by simpa using h)
    show (Value.int .u32 (r.1 : Int) :: u :: rcells rs us).length = _
    simp only [List.length_cons] at *
    omega
theorem RecsAt.in_ {W : World} {lo : Nat} {v : Value} {rs : List Rc} (h : RecsAt W lo v rs) : RecsIn W W.heap.size v rs := by
  obtain ⟨us, ho, hl, hm, ht⟩ := h
  have ho' := ho
  have hc := rcells_length rs us hl
  rcases ho.2 with ⟨rfl, h0⟩ | ⟨g, cap, cur, rfl, _, hgb, hcap, hcur⟩
  · exact ⟨none, 0, by rw [h0], hm, fun h => absurd h (by omega)⟩
  · refine ⟨_, cap, rfl, hm, fun _ => ⟨g, 0, rfl, (Array.getElem?_eq_some_iff.1 hgb).1, fun j hj => ?_⟩⟩
    have hr : rs[j]? = some rs[j] := List.getElem?_eq_getElem hj
    have hy : us[j]? = some us[j] := List.getElem?_eq_getElem (by omega)
    obtain ⟨c1, c2⟩ := rcells_at rs us j _ _ hr hy
    refine ⟨us[j], ?_, ?_, (ht j _ _ hy hr).txt⟩
    · rw [Nat.zero_add, ho'.cellAt (j * 2) (by omega), c1]
    · rw [Nat.zero_add, ho'.cellAt (j * 2 + 1) (by omega), c2]
/-- One record of a list. -/
theorem RecsIn.at {W : World} {B n cap : Nat} {A : Option Addr} {rs : List Rc} (h : RecsIn W B (.slice A n cap) rs) {j : Nat} (hj : j < rs.length) :
    ∃ b off u, A = some ⟨b, off, none⟩ ∧ b < B ∧ W.cell? ⟨b, off + j * 2, none⟩ = some (.int .u32 ((rs[j]).1 : Int)) ∧ W.cell? ⟨b, off + j * 2 + 1, none⟩ = some u ∧ Txt W B u (rs[j]).2 := by
  obtain ⟨A', cap', e, _, h3⟩ := h
  cases e
  obtain ⟨b, off, ha, hb, hc⟩ := h3 (by omega)
  obtain ⟨u, hi, hu, ht⟩ := hc j hj
  exact ⟨b, off, u, ha, hb, hi, hu, ht⟩

theorem same6 (v y : Value) (a b : Rc) (w : World) (h : RcIn w w.heap.size v a) (h' : RcIn w w.heap.size y b) :
    Calls Try.prog 24 #[v, y] w fun e w' => e = .returned (.bool (decide (a = b))) ∧ Below w.heap.size w w' := by
  obtain ⟨ga, ta⟩ := a
  obtain ⟨gb, tb⟩ := b
  obtain ⟨u1, rfl, t1⟩ := h
  obtain ⟨u2, rfl, t2⟩ := h'
  obtain ⟨A1, k1, q1, h1⟩ : ∃ A n c, u1 = .slice A n c := by obtain ⟨A, c, e, _⟩ := t1; exact ⟨A, _, c, e⟩
  obtain ⟨A2, k2, q2, h2⟩ : ∃ A n c, u2 = .slice A n c := by obtain ⟨A, c, e, _⟩ := t2; exact ⟨A, _, c, e⟩
  subst h1 h2
  have HB0 : Hid (Below w.heap.size w ((w.alloc (.cells #[.int .u32 (ga : Int), .slice A1 k1 q1] 36)).alloc (.cells #[.int .u32 (gb : Int), .slice A2 k2 q2] 36))) := Lib.hid ((below_new w _).alloc (by simp) _)
  have hd : decide ((⟨ta.toArray⟩ : ByteArray) = ⟨tb.toArray⟩) = decide (ta = tb) := by
    apply decide_eq_decide.2
    constructor
    · intro e
      have := congrArg (fun b : ByteArray => b.data.toList) e
      simpa using this
    · intro e; rw [e]
  have c1 := run_txt_string (t1.below HB0.out)
  have c2 := run_txt_string (t2.below HB0.out)
  have HD := Lib.hid hd
  have HEQ : Hid (∀ c : Bool, c = (if ga = gb then decide (ta = tb) else false) → c = decide ((ga, ta) = (gb, tb))) := Lib.hid (by
    intro c hc
    rw [hc]
    by_cases h : ga = gb
    · rw [if_pos h]; exact decide_eq_decide.2 ⟨fun h2 => by rw [h, h2], fun h2 => (Prod.mk.inj h2).2⟩
    · rw [if_neg h]; exact (decide_eq_false (fun h2 => h (Prod.mk.inj h2).1)).symm)
  clear hd t1 t2
  by_cases h : ga = gb
  · subst h
    go_enter Try.func24, Try.ntmps24
    go_wp2_with fail
    go_ret
    refine ⟨?_, HB0.out⟩
    rw [show decide (ta = tb) = (ta == tb) from by rw [Bool.eq_iff_iff]; simp]
    rfl
  · have hda : ¬ (ga : Int) = gb := by omega
    go_enter Try.func24, Try.ntmps24
    go_wp2_with fail
    go_ret
    refine ⟨?_, HB0.out⟩
    rfl
end Go.Proofs.Ytdjoflhcagfmiaa
