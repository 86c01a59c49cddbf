/-
  The statement SlotTurns' text returns true: records that are put one behind the other, and a crash of the next one.
  Conditions: none.
-/
import Derived.Test.YtdjoflhcagfmiaaSlotTurnsM
import Derived.Test.YtdjoflhcagfmiaaMFind
import Derived.Test.YtdjoflhcagfmiaaMDev
import Derived.Test.YtdjoflhcagfmiaaMRef
import Derived.Deep.CutRange
set_option linter.unusedVariables false
set_option linter.unusedSimpArgs false
set_option maxRecDepth 100000
namespace Go.Proofs.Ytdjoflhcagfmiaa
open Go.RowKit

theorem owns_other {W W' : World} {base e0 size n : Nat} {v : Value} {ys : List Value} (h : W.ownsRow base e0 size v n ys) {g : Nat} {cur : Array Value} {e : TypeId} {fr : Nat × Nat} (hc : W.heap[g]? = some (.cells cur e fr)) (hne : e0 ≠ e) (hg : W.grownBy W' (some g)) : W'.ownsRow base e0 size v n ys := by
  obtain ⟨h0, h1⟩ := h
  rcases h1 with ⟨h2, h3⟩ | ⟨g2, cap, cur2, h2, h3, h4, h5⟩
  · exact ⟨h0, .inl ⟨h2, h3⟩⟩
  · exact ⟨h0, .inr ⟨g2, cap, cur2, h2, h3, heap_other hne h4 hc hg, h5⟩⟩
/-- A list of records whose texts lie in the caller's memory. -/
def RecsOf (w W : World) (lo : Nat) (v : Value) (rs : List Rc) : Prop :=
  ∃ us : List Value, W.ownsRow lo 36 2 v rs.length (rcells rs us) ∧ us.length = rs.length ∧ rs.length ≤ maxLen ∧ ∀ (j : Nat) (u : Value) (r : Rc), us[j]? = some u → rs[j]? = some r → Txt w w.heap.size u r.2
theorem RecsOf.nil_ (w W : World) (lo : Nat) : RecsOf w W lo (.slice none 0 0) [] := ⟨[], World.ownsRow_nil _ _ _ _, rfl, by simp, fun j u r h => by simp at h⟩
theorem RecsOf.below {w W W' : World} {lo : Nat} {v : Value} {rs : List Rc} (h : RecsOf w W lo v rs) (hb : Below W.heap.size W W') : RecsOf w W' lo v rs := by
  obtain ⟨us, ho, hl, hm, ht⟩ := h
  exact ⟨us, owns_below ho hb, hl, hm, ht⟩
theorem RecsOf.slice {w W : World} {lo : Nat} {v : Value} {rs : List Rc} (h : RecsOf w W lo v rs) : ∃ A c, v = .slice A rs.length c := by
  obtain ⟨us, ho, _⟩ := h
  exact own_sliceN ho
theorem RecsOf.other {w W W' : World} {lo g : Nat} {v : Value} {rs : List Rc} {cur : Array Value} {e : TypeId} {fr : Nat × Nat} (h : RecsOf w W lo v rs) (hc : W.heap[g]? = some (.cells cur e fr)) (hne : 36 ≠ e) (hg : W.grownBy W' (some g)) : RecsOf w W' lo v rs := by
  obtain ⟨us, ho, hl, hm, ht⟩ := h
  exact ⟨us, owns_other ho hc hne hg, hl, hm, ht⟩
theorem RecsOf.in_ {w W : World} {lo : Nat} {v : Value} {rs : List Rc} (h : RecsOf w W lo v rs) (hb : Below w.heap.size w W) : RecsIn W W.heap.size v rs := by
  obtain ⟨us, ho, hl, hm, ht⟩ := h
  have ho' := ho
  have hc := rcells_length rs us hl
  rcases ho.2 with ⟨rfl, h0⟩ | ⟨g, cap, cur, rfl, _, hgb, hcap, hcur⟩
  · exact ⟨none, 0, by rw [h0], hm, fun h => absurd h (by omega)⟩
  · refine ⟨_, cap, rfl, hm, fun _ => ⟨g, 0, rfl, (Array.getElem?_eq_some_iff.1 hgb).1, fun j hj => ?_⟩⟩
    have hr : rs[j]? = some rs[j] := List.getElem?_eq_getElem hj
    have hy : us[j]? = some us[j] := List.getElem?_eq_getElem (by omega)
    obtain ⟨c1, c2⟩ := rcells_at rs us j _ _ hr hy
    refine ⟨us[j], ?_, ?_, ((ht j _ _ hy hr).below hb).more hb.size⟩
    · rw [Nat.zero_add, ho'.cellAt (j * 2) (by omega), c1]
    · rw [Nat.zero_add, ho'.cellAt (j * 2 + 1) (by omega), c2]
theorem RecsOf.snoc {w W5 : World} {lo : Nat} {v5 u : Value} {rs : List Rc} {r : Rc} {us : List Value} (hl : us.length = rs.length) (hm : rs.length + 1 ≤ maxLen)
    (ht : ∀ (j : Nat) (u : Value) (r : Rc), us[j]? = some u → rs[j]? = some r → Txt w w.heap.size u r.2) (hu : Txt w w.heap.size u r.2)
    (hown : W5.ownsRow lo 36 2 v5 (rs.length + 1) (rcells rs us ++ [.int .u32 (r.1 : Int), u])) : RecsOf w W5 lo v5 (rs ++ [r]) := by
  refine ⟨us ++ [u], by rw [List.length_append, List.length_singleton, rcells_snoc _ _ _ _ hl]; exact hown, by simp [hl], by simpa using hm, fun j x y hj hy => ?_⟩
  rcases Nat.lt_or_ge j rs.length with h | h
  · rw [List.getElem?_append_left (by omega)] at hj
    rw [List.getElem?_append_left h] at hy
    exact ht j x y hj hy
  · have hj1 : j = rs.length := by
      have := (List.getElem?_eq_some_iff.1 hy).1
      rw [List.length_append, List.length_singleton] at this
      omega
    subst hj1
    rw [List.getElem?_append_right (by omega), hl, Nat.sub_self] at hj
    rw [List.getElem?_append_right (by omega), Nat.sub_self] at hy
    cases hj
    cases hy
    exact hu
/-- What an append onto a list of records leaves as it was. -/
theorem heap_kept {W W' : World} {base n b : Nat} {v : Value} {ys : List Value} {c : Array Value} {t : TypeId} {fr : Nat × Nat} (ho : W.ownsRow base 36 2 v n ys) (hg : W.grownBy W' v.ownBlock) (h : W.heap[b]? = some (.cells c t fr)) (hne : t ≠ 36) : W'.heap[b]? = some (.cells c t fr) := by
  cases hv : v.ownBlock with
  | none => rw [hv] at hg; exact (hg.block b (heap_lt h) (by simp)).trans h
  | some g =>
    obtain ⟨c, h1, _⟩ := owns_block ho hv
    rw [hv] at hg
    exact heap_other hne h h1 hg
theorem disk_kept {W W' : World} {base n lo : Nat} {v d : Value} {ys : List Value} {ss : List Bs} {ws : List Wr} (ho : W.ownsRow base 36 2 v n ys) (hg : W.grownBy W' v.ownBlock) (h : DiskAt W lo d ss ws) : DiskAt W' lo d ss ws := by
  cases hv : v.ownBlock with
  | none => rw [hv] at hg; exact h.below ((Below.refl _ W).grown hg (Nat.le_refl _) (fun k hk => by cases hk))
  | some g =>
    obtain ⟨c, h1, _⟩ := owns_block ho hv
    rw [hv] at hg
    exact disk_turned h h1 (by decide) (by decide) (by decide) hg

set_option maxHeartbeats 16000000 in
theorem walk_turns (tv kv : Value) (ts : List Bs) (ks : Bs) (w : World) (h : SecsIn w w.heap.size tv ts) (h1 : Txt w w.heap.size kv ks) :
    Calls Try.prog 8 #[tv, kv] w fun e w' => e = .returned (.bool true) ∧ Below w.heap.size w w' := by
  have IT0 := Lib.hid h
  have IK0 := Lib.hid h1
  obtain ⟨A1, c1, rfl, hml, -, -, -⟩ := h
  obtain ⟨A2, c2, rfl, hmk, -, -, -⟩ := h1
  go_enter Try.func8, Try.ntmps8
  go_wp2_with fail
  refine (alive6 w).mono ?_
  rintro e w1 ⟨rfl, b1⟩
  have BW := Lib.hid b1
  clear b1
  by_cases hl : (6 : Int) < ts.length
  · go_wp2_with fail
    go_ret
    exact ⟨rfl, BW.out⟩
  by_cases hk : (1000 : Int) < ks.length
  · go_wp2_with fail
    go_ret
    exact ⟨rfl, BW.out⟩
  go_wp2_with fail
  refine (new_any w1).mono ?_
  rintro e w2 ⟨v2, rfl, hs2, b2⟩
  obtain ⟨A3, n3, c3, rfl⟩ := secs_any hs2
  have D2 : DiskAt w2 w1.heap.size (.agg #[.slice A3 n3 c3, .slice none 0 0]) newD [] := ⟨_, _, rfl, hs2, WtsAt.nil_ _ _⟩
  have L1 : Hid (w.heap.size ≤ w1.heap.size) := Lib.hid BW.out.size
  have tBW := BW.out.trans (b2.mono BW.out.size)
  clear BW 
  have BW := Lib.hid tBW
  clear tBW  b2
  obtain ⟨q3, hq3, q30, q3b⟩ : ∃ q : World, q = w2.alloc (.cells #[.slice A3 n3 c3, .slice none 0 0] 29) ∧ q.heap[w2.heap.size]? = some (.cells #[.slice A3 n3 c3, .slice none 0 0] 29 (0, 0)) ∧ Below w2.heap.size w2 q := ⟨_, rfl, heap_alloc_self _ _, below_new _ _⟩
  have D3 := Lib.hid ((D2.below q3b).mono L1.out)
  have LP : Hid (w.heap.size ≤ w2.heap.size) := Lib.hid BW.out.size
  have BQ := Lib.hid (BW.out.trans (q3b.mono BW.out.size))
  have X3 := Lib.hid q30
  clear BW L1 D2 hs2 q30 q3b
  go_wp2_with fail
  rw [← hq3]
  clear hq3
  generalize w2.heap.size = p0 at X3 LP ⊢
  go_loopw [7, 8] (fun s7 s8 wr => ∃ (ss : List Bs) (l : List Rc) (A : Option Addr) (n c : Nat) (A' : Option Addr) (n' c' : Nat), l.length ≤ ts.length ∧ s8 = .int .i64 l.length ∧ Turns ss l ∧ wr.heap[p0]? = some (.cells #[.slice A n c, .slice A' n' c'] 29 (0, 0)) ∧ DiskAt wr w.heap.size (.agg #[.slice A n c, .slice A' n' c']) ss [] ∧ RecsOf w wr w.heap.size s7 l ∧ Below w.heap.size w wr) (fun _ s8 _ => ts.length - (intOf s8).toNat)
  case atStart => exact ⟨newD, [], A3, n3, c3, none, 0, 0, Nat.zero_le _, rfl, turns_new, X3.out, D3.out, RecsOf.nil_ _ _ _, BQ.out⟩
  case round =>
    obtain ⟨ss, l, A4, n4, c4, A5, n5, c5, hlt, rfl, hT, hx, hd, hr, hb⟩ := hrel
    have BW := Lib.hid hb
    have XD := Lib.hid hx
    have DD := Lib.hid hd
    have RL := Lib.hid hr
    have HT := Lib.hid hT
    have IT := Lib.hid ((IT0.out.below hb).more hb.size)
    have IK := Lib.hid ((IK0.out.below hb).more hb.size)
    obtain ⟨A6, c6, rfl⟩ := hr.slice
    clear hb hx hd hr hT X3 D3 BQ
    
    by_cases hk : l.length < ts.length
    · have hk' : (l.length : Int) < ts.length := by omega
      go_upto_if 45 with fail
      go_cut [9] from 37 to 211 (fun s9 wx => s9 = .int .u32 (l.length : Int) ∧ wx = wr)
      case first =>
        by_cases hz : l.length = 0
        · have hz' : ¬ (0 : Int) < l.length := by omega
          have hzb : decide ((0 : Int) < l.length) = false := decide_eq_false hz'
          have hzc : decide (0 < l.length) = false := decide_eq_false (by omega)
          have HZ := Lib.hid hz
          clear hz hz'
          rw [hzc]
          go_wp2_with fail
          go_meet
          exact ⟨by rw [HZ.out]; rfl, rfl⟩
        · have hz' : (0 : Int) < l.length := by omega
          have hzb : decide ((0 : Int) < l.length) = true := decide_eq_true hz'
          have hzc : decide (0 < l.length) = true := decide_eq_true (by omega)
          obtain ⟨k, hkk⟩ : ∃ k, l.length = k + 1 := ⟨l.length - 1, by omega⟩
          obtain ⟨b, off, u, rfl, hb0, hc0, hc1, ht⟩ := (RL.out.in_ BW.out).at (j := k) (by omega)
          have hg := HT.out.gens k l[k] (List.getElem?_eq_getElem (by omega))
          rw [hg, ← hkk] at hc0
          have hki : (l.length : Int) - 1 = k := by omega
          have hkl : (k : Int) < l.length := by omega
          have hwk : IntKind.i64.wrap (k : Int) = (k : Int) := by simp [IntKind.wrap, IntKind.bits]; omega
          have hkL : Hid (decide ((k : Int) < l.length) = true) := Lib.hid (decide_eq_true hkl)
          have hkn : (0 : Int) ≤ k := by omega
          clear hc1 ht hb0 hkk hg hz
          rw [hzc]
          go_wp2_with fail
          go_meet
          exact ⟨rfl, rfl⟩
      case rest =>
        obtain ⟨rfl, rfl⟩ := hcut
        obtain ⟨bt, ot, ut, rfl, hbt, hct, htt⟩ := IT0.out.at hk
        generalize ts[l.length] = t at htt
        obtain ⟨At, ct, rfl, -, -, -, -⟩ := id htt
        have LBT := Lib.hid hbt
        have CT := Lib.hid hct
        have TT := Lib.hid htt
        obtain ⟨G, hG⟩ : ∃ G, G = l.length + 1 := ⟨_, rfl⟩
        have HG := Lib.hid hG
        have hl6 : l.length ≤ 5 := by omega
        have HL6 := Lib.hid hl6
        have HGL : Hid (G < 4294967296) := Lib.hid (by omega)
        clear hbt hct htt
        clear IT
        obtain ⟨k0, k1⟩ := cell2_of XD.out
        go_wp2_with fail
        refine (snext_any _ ss [] l.length (by omega) _ DD.out.in_).mono ?_
        rintro e w4 ⟨rfl, b4⟩
        obtain ⟨hE, hN⟩ := next_eg HT.out.may (g := l.length) (by rw [turns_next HT.out]; omega)
        rw [hE, hN, turns_next HT.out, ← hG]
        clear hE hN hG
        clear k0 k1
        have tBW := BW.out.trans (b4.mono BW.out.size)
        have tXD := (b4.block _ (heap_lt XD.out)).trans XD.out
        have tDD := DD.out.below b4
        have tRL := RL.out.below b4
        have tIK := (IK.out.below b4).more b4.size
        clear BW XD DD RL IK
        have BW := Lib.hid tBW
        have XD := Lib.hid tXD
        have DD := Lib.hid tDD
        have RL := Lib.hid tRL
        have IK := Lib.hid tIK
        clear tBW tXD tDD tRL tIK b4
        have LBT4 : Hid (bt < w4.heap.size) := Lib.hid (Nat.lt_of_lt_of_le LBT.out BW.out.size)
        have CT4 : Hid (w4.cell? ⟨bt, ot + l.length, none⟩ = some (.slice At t.length ct)) := Lib.hid ((BW.out.cell (p := ⟨bt, _, none⟩) LBT.out).trans CT.out)
        have TT4 := Lib.hid ((TT.out.below BW.out).more BW.out.size)
        go_upto_region 13 with fail
        go_cut [12, 13] from 37 to 211 (fun s12 s13 wx => ∃ p A n c A' c', s12 = .pointer (some ⟨p, 0, none⟩) ∧ s13 = .int .i64 (putE ss [] G t) ∧ wx.heap[p]? = some (.cells #[.slice A n c, .slice A' (putW ss [] G t).length c'] 29 (0, 0)) ∧ DiskAt wx w4.heap.size (.agg #[.slice A n c, .slice A' (putW ss [] G t).length c']) (putS ss [] G t) (putW ss [] G t) ∧ Below w4.heap.size w4 wx)
        case first =>
          have Q0 := Lib.hid (Below.refl w4.heap.size w4).drew
          as_aux_lemma =>
            refine wp_region_held_drew (S := fun v => Below w4.heap.size w4 v) (by kernel_rfl) Q0.out (fun hHeld => ?_)
            refine wpAnyH_take (i := 0) (v := ?_) rfl (by as_aux_lemma => kernel_rfl) (by as_aux_lemma => kernel_rfl) (by as_aux_lemma => kernel_rfl) (fun _ _ _ h => h) (Or.inl ⟨by rfl, ?_⟩) hHeld ?_
            rotate_left
            · intro w' hSw; obtain ⟨cu0, cu1⟩ := cell2_of ((hSw.block _ (heap_lt XD.out)).trans XD.out); go_simp; try with_reducible rfl
            simp only [List.getElem_toArray, List.getElem_cons_succ, List.getElem_cons_zero, Act.put, List.setIfInBounds_toArray, List.set_cons_zero, List.set_cons_succ]
            refine wpAnyH_take (i := 1) (v := ?_) rfl (by as_aux_lemma => kernel_rfl) (by as_aux_lemma => kernel_rfl) (by as_aux_lemma => kernel_rfl) (fun _ _ _ h => h) (Or.inl ⟨by rfl, ?_⟩) hHeld ?_
            rotate_left
            · intro w' hSw; go_simp; try with_reducible rfl
            simp only [List.getElem_toArray, List.getElem_cons_succ, List.getElem_cons_zero, Act.put, List.setIfInBounds_toArray, List.set_cons_zero, List.set_cons_succ]
            refine wpAnyH_take (i := 2) (v := ?_) rfl (by as_aux_lemma => kernel_rfl) (by as_aux_lemma => kernel_rfl) (by as_aux_lemma => kernel_rfl) (fun _ _ _ h => h) (Or.inl ⟨by rfl, ?_⟩) hHeld ?_
            rotate_left
            · intro w' hSw; go_simp; try with_reducible rfl
            simp only [List.getElem_toArray, List.getElem_cons_succ, List.getElem_cons_zero, Act.put, List.setIfInBounds_toArray, List.set_cons_zero, List.set_cons_succ]
            refine wpAnyH_take (i := 3) (v := ?_) rfl (by as_aux_lemma => kernel_rfl) (by as_aux_lemma => kernel_rfl) (by as_aux_lemma => kernel_rfl) (fun _ _ _ h => h) (Or.inl ⟨by rfl, ?_⟩) hHeld ?_
            rotate_left
            · intro w' hSw; go_simp; try with_reducible rfl
            simp only [List.getElem_toArray, List.getElem_cons_succ, List.getElem_cons_zero, Act.put, List.setIfInBounds_toArray, List.set_cons_zero, List.set_cons_succ]
            refine wpAnyH_take (i := 4) (v := ?_) rfl (by as_aux_lemma => kernel_rfl) (by as_aux_lemma => kernel_rfl) (by as_aux_lemma => kernel_rfl) (fun _ _ _ h => h) (Or.inl ⟨by rfl, ?_⟩) hHeld ?_
            rotate_left
            · intro w' hSw; go_simp; try with_reducible rfl
            simp only [List.getElem_toArray, List.getElem_cons_succ, List.getElem_cons_zero, Act.put, List.setIfInBounds_toArray, List.set_cons_zero, List.set_cons_succ]
            refine wpAnyH_take (i := 5) (v := ?_) rfl (by as_aux_lemma => kernel_rfl) (by as_aux_lemma => kernel_rfl) (by as_aux_lemma => kernel_rfl) (fun _ _ _ h => h) (Or.inl ⟨by rfl, ?_⟩) hHeld ?_
            rotate_left
            · intro w' hSw; have cu := (hSw.cell (p := ⟨bt, ot + l.length, none⟩) LBT4.out).trans CT4.out; go_simp; try with_reducible rfl
            simp only [List.getElem_toArray, List.getElem_cons_succ, List.getElem_cons_zero, Act.put, List.setIfInBounds_toArray, List.set_cons_zero, List.set_cons_succ]
            refine wpAnyH_take (i := 6) (v := ?_) rfl (by as_aux_lemma => kernel_rfl) (by as_aux_lemma => kernel_rfl) (by as_aux_lemma => kernel_rfl) (fun _ _ _ h => h) (Or.inl ⟨by rfl, ?_⟩) hHeld ?_
            rotate_left
            · intro w' hSw; go_simp; try with_reducible rfl
            simp only [List.getElem_toArray, List.getElem_cons_succ, List.getElem_cons_zero, Act.put, List.setIfInBounds_toArray, List.set_cons_zero, List.set_cons_succ]
            refine wpAnyH_ready (rs := [7, 11]) (by as_aux_lemma => kernel_rfl) (by simp) ?_
            refine AllReadyH.cons rfl (fun K hK => ?_) (AllReadyH.cons rfl (fun K hK => ?_) AllReadyH.nil)
            · go_simp
              refine (sput_any _ _ ss [] G t HGL.out w4.drew (DD.out.below Q0.out).in_ ((TT4.out.below Q0.out).more Q0.out.size)).mono ?_
              rintro e wA ⟨dA, rfl, hdA, bA⟩
              obtain ⟨y1, y2, rfl, hsA, hwA⟩ := hdA
              obtain ⟨A10, n10, c10, rfl⟩ := secs_any hsA
              obtain ⟨A11, c11, rfl⟩ := wts_slice hwA
              have BA := Lib.hid (Q0.out.trans (bA.mono Q0.out.size))
              clear bA
              try go_wp2_with fail
              refine hK.out _ _ ?_ (fun hHeld => ?_)
              · exact BA.out
              clear hK K
              try simp only [List.getElem_toArray, List.getElem_cons_succ, List.getElem_cons_zero, Act.put, List.setIfInBounds_toArray, List.set_cons_zero, List.set_cons_succ]
              refine wpAnyH_take (i := 8) (v := ?_) rfl (by as_aux_lemma => kernel_rfl) (by as_aux_lemma => kernel_rfl) (by as_aux_lemma => kernel_rfl) (fun _ _ _ h => h) (Or.inl ⟨by rfl, ?_⟩) hHeld ?_
              rotate_left
              · intro w' hSw; go_simp; try with_reducible rfl
              simp only [List.getElem_toArray, List.getElem_cons_succ, List.getElem_cons_zero, Act.put, List.setIfInBounds_toArray, List.set_cons_zero, List.set_cons_succ]
              refine wpAnyH_take (i := 9) (v := ?_) rfl (by as_aux_lemma => kernel_rfl) (by as_aux_lemma => kernel_rfl) (by as_aux_lemma => kernel_rfl) (fun _ _ _ h => h) (Or.inl ⟨by rfl, ?_⟩) hHeld ?_
              rotate_left
              · intro w' hSw; go_simp; try with_reducible rfl
              simp only [List.getElem_toArray, List.getElem_cons_succ, List.getElem_cons_zero, Act.put, List.setIfInBounds_toArray, List.set_cons_zero, List.set_cons_succ]
              refine wpAnyH_take (i := 10) (v := ?_) rfl (by as_aux_lemma => kernel_rfl) (by as_aux_lemma => kernel_rfl) (by as_aux_lemma => kernel_rfl) (fun _ _ _ h => h) (Or.inl ⟨by rfl, ?_⟩) hHeld ?_
              rotate_left
              · intro w' hSw; go_simp; try with_reducible rfl
              simp only [List.getElem_toArray, List.getElem_cons_succ, List.getElem_cons_zero, Act.put, List.setIfInBounds_toArray, List.set_cons_zero, List.set_cons_succ]
              refine wpAnyH_ready (rs := [11]) (by as_aux_lemma => kernel_rfl) (by simp) ?_
              refine AllReadyH.cons rfl (fun K hK => ?_) AllReadyH.nil
              go_simp
              refine hK.out _ _ ?_ (fun hHeld => ?_)
              · exact BA.out.alloc BA.out.size _
              clear hK K
              try simp only [List.getElem_toArray, List.getElem_cons_succ, List.getElem_cons_zero, Act.put, List.setIfInBounds_toArray, List.set_cons_zero, List.set_cons_succ]
              refine wpAnyH_ready (rs := [12]) (by as_aux_lemma => kernel_rfl) (by simp) ?_
              refine AllReadyH.cons rfl (fun K hK => ?_) AllReadyH.nil
              rw [if_pos (by rfl)]
              refine wp_store_2 29 _ _ rfl wA.heap.size rfl rfl (heap_alloc_self _ _) infoDisk2 rfl rfl ?_
              rw [World.setRow_alloc_new]
              refine hK.out _ _ ?_ (fun hHeld => ?_)
              · exact BA.out.alloc BA.out.size _
              clear hK K
              try simp only [List.getElem_toArray, List.getElem_cons_succ, List.getElem_cons_zero, Act.put, List.setIfInBounds_toArray, List.set_cons_zero, List.set_cons_succ]
              refine wpAnyH_take (i := 13) (v := ?_) rfl (by as_aux_lemma => kernel_rfl) (by as_aux_lemma => kernel_rfl) (by as_aux_lemma => kernel_rfl) (fun _ _ _ h => h) (Or.inl ⟨by rfl, ?_⟩) hHeld ?_
              rotate_left
              · intro w' hSw; go_simp; try with_reducible rfl
              simp only [List.getElem_toArray, List.getElem_cons_succ, List.getElem_cons_zero, Act.put, List.setIfInBounds_toArray, List.set_cons_zero, List.set_cons_succ]
              refine wpAnyH_done (by as_aux_lemma => kernel_rfl) ?_ _
              go_wp2_with fail
              go_meet
              exact ⟨wA.heap.size, _, _, _, _, _, rfl, rfl, heap_alloc_self _ _, ⟨_, _, rfl, hsA.below (below_new _ _), hwA.below (below_new _ _)⟩, BA.out.alloc BA.out.size _⟩
            · go_simp
              have hz0 : Below w4.heap.size w4 (w4.alloc (.cells #[.slice none 0 0, .slice none 0 0] 29)).drew := (below_new _ _).drew
              have hz1 : (w4.alloc (.cells #[.slice none 0 0, .slice none 0 0] 29)).drew.heap[w4.heap.size]? = some (.cells #[.slice none 0 0, .slice none 0 0] 29 (0, 0)) := heap_alloc_self _ _
              refine hK.out _ _ ?_ (fun hHeld => ?_)
              · exact hz0
              clear hK K
              try simp only [List.getElem_toArray, List.getElem_cons_succ, List.getElem_cons_zero, Act.put, List.setIfInBounds_toArray, List.set_cons_zero, List.set_cons_succ]
              generalize (w4.alloc (.cells #[.slice none 0 0, .slice none 0 0] 29)).drew = wB at hz0 hz1 hHeld ⊢
              have HZ0 := Lib.hid hz0
              have HZ1 := Lib.hid hz1
              clear hz0 hz1
              refine wpAnyH_ready (rs := [7]) (by as_aux_lemma => kernel_rfl) (by simp) ?_
              refine AllReadyH.cons rfl (fun K hK => ?_) AllReadyH.nil
              go_simp
              refine (sput_any _ _ ss [] G t HGL.out wB (DD.out.below HZ0.out).in_ ((TT4.out.below HZ0.out).more HZ0.out.size)).mono ?_
              rintro e wA ⟨dA, rfl, hdA, bA⟩
              obtain ⟨y1, y2, rfl, hsA, hwA⟩ := hdA
              obtain ⟨A10, n10, c10, rfl⟩ := secs_any hsA
              obtain ⟨A11, c11, rfl⟩ := wts_slice hwA
              have BA := Lib.hid (HZ0.out.trans (bA.mono HZ0.out.size))
              have HZ2 := Lib.hid ((bA.block _ (heap_lt HZ1.out)).trans HZ1.out)
              clear bA
              try go_wp2_with fail
              refine hK.out _ _ ?_ (fun hHeld => ?_)
              · exact BA.out
              clear hK K
              try simp only [List.getElem_toArray, List.getElem_cons_succ, List.getElem_cons_zero, Act.put, List.setIfInBounds_toArray, List.set_cons_zero, List.set_cons_succ]
              refine wpAnyH_take (i := 8) (v := ?_) rfl (by as_aux_lemma => kernel_rfl) (by as_aux_lemma => kernel_rfl) (by as_aux_lemma => kernel_rfl) (fun _ _ _ h => h) (Or.inl ⟨by rfl, ?_⟩) hHeld ?_
              rotate_left
              · intro w' hSw; go_simp; try with_reducible rfl
              simp only [List.getElem_toArray, List.getElem_cons_succ, List.getElem_cons_zero, Act.put, List.setIfInBounds_toArray, List.set_cons_zero, List.set_cons_succ]
              refine wpAnyH_take (i := 9) (v := ?_) rfl (by as_aux_lemma => kernel_rfl) (by as_aux_lemma => kernel_rfl) (by as_aux_lemma => kernel_rfl) (fun _ _ _ h => h) (Or.inl ⟨by rfl, ?_⟩) hHeld ?_
              rotate_left
              · intro w' hSw; go_simp; try with_reducible rfl
              simp only [List.getElem_toArray, List.getElem_cons_succ, List.getElem_cons_zero, Act.put, List.setIfInBounds_toArray, List.set_cons_zero, List.set_cons_succ]
              refine wpAnyH_take (i := 10) (v := ?_) rfl (by as_aux_lemma => kernel_rfl) (by as_aux_lemma => kernel_rfl) (by as_aux_lemma => kernel_rfl) (fun _ _ _ h => h) (Or.inl ⟨by rfl, ?_⟩) hHeld ?_
              rotate_left
              · intro w' hSw; go_simp; try with_reducible rfl
              simp only [List.getElem_toArray, List.getElem_cons_succ, List.getElem_cons_zero, Act.put, List.setIfInBounds_toArray, List.set_cons_zero, List.set_cons_succ]
              refine wpAnyH_ready (rs := [12]) (by as_aux_lemma => kernel_rfl) (by simp) ?_
              refine AllReadyH.cons rfl (fun K hK => ?_) AllReadyH.nil
              rw [if_pos (by rfl)]
              refine wp_store_2 29 _ _ rfl w4.heap.size rfl rfl HZ2.out infoDisk2 rfl rfl ?_
              refine hK.out _ _ ?_ (fun hHeld => ?_)
              · exact below_setRow BA.out (Nat.le_refl _) _
              clear hK K
              try simp only [List.getElem_toArray, List.getElem_cons_succ, List.getElem_cons_zero, Act.put, List.setIfInBounds_toArray, List.set_cons_zero, List.set_cons_succ]
              refine wpAnyH_take (i := 13) (v := ?_) rfl (by as_aux_lemma => kernel_rfl) (by as_aux_lemma => kernel_rfl) (by as_aux_lemma => kernel_rfl) (fun _ _ _ h => h) (Or.inl ⟨by rfl, ?_⟩) hHeld ?_
              rotate_left
              · intro w' hSw; go_simp; try with_reducible rfl
              simp only [List.getElem_toArray, List.getElem_cons_succ, List.getElem_cons_zero, Act.put, List.setIfInBounds_toArray, List.set_cons_zero, List.set_cons_succ]
              refine wpAnyH_done (by as_aux_lemma => kernel_rfl) ?_ _
              go_wp2_with fail
              go_meet
              exact ⟨w4.heap.size, _, _, _, _, _, rfl, rfl, setRow_heap _ _ _ _ _ _ HZ2.out, ⟨_, _, rfl, (secs_setRow hsA (heap_lt HZ1.out) _).mono HZ0.out.size, (wts_setRow hwA (heap_lt HZ1.out) _).mono HZ0.out.size⟩, below_setRow BA.out (Nat.le_refl _) _⟩
        case rest =>
          obtain ⟨p4, A10, n10, c10, A11, c11, rfl, rfl, hx, hd, hbl⟩ := hcut
          obtain ⟨w5, hw5⟩ : ∃ w5 : World, w5 = wc := ⟨_, rfl⟩
          subst hw5
          have tBW := BW.out.trans (hbl.mono BW.out.size)
          have tXD := (hbl.block _ (heap_lt XD.out)).trans XD.out
          have tDD := DD.out.below hbl
          have tRL := RL.out.below hbl
          have tIK := (IK.out.below hbl).more hbl.size
          clear BW XD DD RL IK
          have BW := Lib.hid tBW
          have XD := Lib.hid tXD
          have DD := Lib.hid tDD
          have RL := Lib.hid tRL
          have IK := Lib.hid tIK
          clear tBW tXD tDD tRL tIK hbl
          clear LBT4 CT4 TT4
          have LBT5 : Hid (bt < w5.heap.size) := Lib.hid (Nat.lt_of_lt_of_le LBT.out BW.out.size)
          have ctc : w5.cell? ⟨bt, ot + l.length, none⟩ = some (.slice At t.length ct) := (BW.out.cell (p := ⟨bt, _, none⟩) LBT.out).trans CT.out
          have XX := Lib.hid hx
          have DX := Lib.hid hd
          clear hx hd
          by_cases hlong : 1882 < t.length
          · have hl2 : (1882 : Int) < t.length := by omega
            rw [putE_long HT.out.may (by have := HG.out; omega) hlong]
            clear hlong
            go_wp2_with fail
            go_ret
            exact ⟨rfl, BW.out⟩
          · have hl2 : ¬ (1882 : Int) < t.length := by omega
            obtain ⟨hE, hS, hW⟩ := putE_fits HT.out.may (g := G) (t := t) (by have := HG.out; omega) (by omega)
            rw [hE]
            rw [hS, hW] at DX
            rw [hW] at XX
            have hok : okR G t := ⟨by have := HG.out; omega, HGL.out, by omega⟩
            have HOK := Lib.hid hok
            obtain ⟨W, hWs⟩ : ∃ W, W = putWs G t := ⟨_, rfl⟩
            rw [← hWs] at DX XX
            have HW := Lib.hid hWs
            have HM : Hid (May ss W) := Lib.hid (by
              have := put_may (g := G) HT.out.may hok.2.2 (turns_room hok.2.2)
              rw [List.nil_append, ← hWs] at this
              exact this)
            obtain ⟨m, hm⟩ : ∃ m, m = W.length := ⟨_, rfl⟩
            rw [← hm] at DX XX
            have HMW := Lib.hid hm
            have hm1 : m ≤ 16 := by rw [hm, hWs, putWs_length]; exact cntR_le hok.2.2
            have hm2 : (m : Int) ≤ 16 := by omega
            clear hE hS hW hok hWs hm hlong
            obtain ⟨k0, k1⟩ := cell2_of XX.out
            obtain ⟨oM, hmk, hnm⟩ := makeNums w5 m (by omega)
            have qMb := below_new w5 oM
            obtain ⟨wM, hwM⟩ : ∃ wM, wM = w5.alloc oM := ⟨_, rfl⟩
            rw [← hwM] at hmk hnm qMb
            clear hwM
            have NM := Lib.hid hnm
            have QM := Lib.hid qMb
            have LM : Hid (w5.heap.size ≤ w5.heap.size) := Lib.hid (Nat.le_refl _)
            have LZ : Hid ((noughts m).length = m ∧ ∀ z ∈ noughts m, fitK z) := Lib.hid ⟨by simp [noughts], fun z hz => by rw [List.eq_of_mem_replicate hz]; exact ⟨by omega, by omega⟩⟩
            clear hnm qMb
            go_wp2_with fail
            clear hmk k0 k1
            generalize hpf : w5.heap.size = pf at NM ⊢
            have HPF := Lib.hid hpf
            clear hpf
            have L15 : Hid (∀ s15 : Value, s15 = .int .i64 0 → ∃ (j : Nat) (zs : List Int), j ≤ m ∧ s15 = .int .i64 j ∧ zs.length = m ∧ (∀ z ∈ zs, fitK z) ∧ NumsAt wM pf zs ∧ Below w5.heap.size w5 wM) := Lib.hid (fun s15 e => ⟨0, noughts m, Nat.zero_le _, e, LZ.out.1, LZ.out.2, NM.out, QM.out⟩)
            go_loopw [15] (fun s15 wr => ∃ (j : Nat) (zs : List Int), j ≤ m ∧ s15 = .int .i64 j ∧ zs.length = m ∧ (∀ z ∈ zs, fitK z) ∧ NumsAt wr pf zs ∧ Below w5.heap.size w5 wr) (fun s15 _ => m - (intOf s15).toNat)
            case atStart => exact L15.out _ rfl
            case round =>
              obtain ⟨j, zs, hj, rfl, hzl, hfit, hna, hb⟩ := hrel
              have HB := Lib.hid hb
              have HZL := Lib.hid hzl
              have HFIT := Lib.hid hfit
              have HNA := Lib.hid hna
              clear hb hzl hfit hna
              go_upto_region 20 with fail
              go_cut [99] from 91 to 113 (fun s99 wx => s99 = .bool (decide (j < m ∧ 0 < ks.length)) ∧ wx = wr)
              case first =>
                by_cases hjm : j < m
                · have hj1 : decide ((j : Int) < m) = true := decide_eq_true (by omega)
                  have hj2 : decide (j < m) = true := decide_eq_true hjm
                  by_cases hkl : 0 < ks.length
                  · have hk1 : decide ((0 : Int) < ks.length) = true := decide_eq_true (by omega)
                    have hk2 : decide (0 < ks.length) = true := decide_eq_true hkl
                    have HD : Hid (decide (j < m ∧ 0 < ks.length) = true) := Lib.hid (decide_eq_true ⟨hjm, hkl⟩)
                    clear hjm hkl
                    go_wp2_with fail
                    go_meet
                    exact ⟨by rw [HD.out], rfl⟩
                  · have hk1 : decide ((0 : Int) < ks.length) = false := decide_eq_false (by omega)
                    have hk2 : decide (0 < ks.length) = false := decide_eq_false hkl
                    have HD : Hid (decide (j < m ∧ 0 < ks.length) = false) := Lib.hid (decide_eq_false fun h => hkl h.2)
                    clear hjm hkl
                    go_wp2_with fail
                    go_meet
                    exact ⟨by rw [HD.out], rfl⟩
                · have hj1 : decide ((j : Int) < m) = false := decide_eq_false (by omega)
                  have hj2 : decide (j < m) = false := decide_eq_false hjm
                  have HD : Hid (decide (j < m ∧ 0 < ks.length) = false) := Lib.hid (decide_eq_false fun h => hjm h.1)
                  clear hjm
                  go_wp2_with fail
                  go_meet
                  exact ⟨by rw [HD.out], rfl⟩
              case rest =>
                obtain ⟨rfl, rfl⟩ := hcut
                obtain ⟨wr, hwr⟩ : ∃ wr : World, wr = wc := ⟨_, rfl⟩
                subst hwr
                by_cases hgo : j < m ∧ 0 < ks.length
                · rw [decide_eq_true hgo]
                  obtain ⟨hjm, hkl⟩ := hgo
                  have hjm' : (j : Int) < m := by omega
                  obtain ⟨jj, hjj⟩ : ∃ jj, jj = j % ks.length := ⟨_, rfl⟩
                  have hjl : jj < ks.length := by rw [hjj]; exact Nat.mod_lt _ hkl
                  have hr1 : (j : Int) % ks.length = jj := by rw [hjj]; omega
                  have hr2 : Int.tmod (j : Int) ks.length = jj := by rw [Int.tmod_eq_emod_of_nonneg (by omega)]; exact hr1
                  have hk0 : ¬ (ks.length : Int) = 0 := by omega
                  have hjl' : (jj : Int) < ks.length := by omega
                  obtain ⟨bk, ok_, ck, e2, hbk, hck⟩ := txt_byte_ IK0.out rfl (j := jj) hjl
                  injection e2 with e3 e4 e5
                  subst e3
                  have hwk := (BW.out.trans (HB.out.mono BW.out.size)).cell (p := ⟨bk, ok_ + jj, none⟩) hbk
                  have hck2 := hwk.trans hck
                  generalize ks[jj] = x at hck2
                  have hx := UInt8.toNat_lt x
                  obtain ⟨z, hz⟩ : ∃ z : Nat, z = x.toNat % 129 := ⟨_, rfl⟩
                  have hz1 : (x.toNat : Int) % 129 = z := by omega
                  have hz2 : Int.tmod (x.toNat : Int) 129 = z := by rw [Int.tmod_eq_emod_of_nonneg (by omega)]; exact hz1
                  have hz3 : z < 129 := by omega
                  have hcell := HNA.out.cell (j := j) (by rw [HZL.out]; exact hjm)
                  have f0 := HNA.out.frozen j
                  have HF : Hid (∀ y ∈ zs.set j (z : Int), fitK y) := Lib.hid (fun y hy => by
                    rcases List.mem_or_eq_of_mem_set hy with h | rfl
                    · exact HFIT.out y h
                    · exact ⟨by omega, by omega⟩)
                  have HL : Hid ((zs.set j (z : Int)).length = m) := Lib.hid (by rw [List.length_set]; exact HZL.out)
                  have HN := Lib.hid (HNA.out.set j (z : Int))
                  have HBS := Lib.hid (below_set (b := pf) HB.out (by rw [← HPF.out]; exact Nat.le_refl _) j (.int .i64 (z : Int)))
                  clear hck hwk hjj hz hbk e4 e5 hkl
                  go_wp2_with fail
                  go_roundw
                  case measure => simp [intOf]; omega
                  case rel => exact ⟨j + 1, zs.set j (z : Int), by omega, by go_num, HL.out, HF.out, HN.out, HBS.out⟩
                · rw [decide_eq_false hgo]
                  clear hgo
                  have hna := HNA.out
                  have tBW := BW.out.trans (HB.out.mono BW.out.size)
                  have tXD := (HB.out.block _ (heap_lt XD.out)).trans XD.out
                  have tDD := DD.out.below HB.out
                  have tRL := RL.out.below HB.out
                  have tIK := (IK.out.below HB.out).more HB.out.size
                  have tXX := (HB.out.block _ (heap_lt XX.out)).trans XX.out
                  have tDX := DX.out.below HB.out
                  clear BW XD DD RL IK XX DX
                  have BW := Lib.hid tBW
                  have XD := Lib.hid tXD
                  have DD := Lib.hid tDD
                  have RL := Lib.hid tRL
                  have IK := Lib.hid tIK
                  have XX := Lib.hid tXX
                  have DX := Lib.hid tDX
                  clear tBW tXD tDD tRL tIK tXX tDX
                  clear HB L15 LZ NM QM LM HPF
                  have NZ : Hid (NumsIn wr wr.heap.size (.slice (some ⟨pf, 0, none⟩) m m) zs) := Lib.hid (by
                    have h := hna.nums (by rw [HZL.out]; unfold maxLen; omega)
                    rw [HZL.out] at h
                    exact h)
                  have hcE : crashE ss W zs = 0 := crashE_zero HM.out (by rw [HZL.out]; exact HMW.out) HFIT.out
                  have hcS : crashS ss W zs = comes ss W (zs.map Int.toNat) := by rw [crashS, if_pos hcE]
                  have HCM := Lib.hid (may_comes HM.out (zs.map Int.toNat))
                  have HCC : Hid (∀ y, l.getLast? = some y → y ∈ findR (comes ss W (zs.map Int.toNat)) []) := Lib.hid (fun y hy => by
                    have hw := HW.out
                    have hg := HG.out
                    subst hw hg
                    exact turns_crash HT.out HOK.out _ hy)
                  clear hna HNA HZL HFIT
                  obtain ⟨k0, k1⟩ := cell2_of XX.out
                  go_wp2_with fail
                  refine (crash_any _ _ ss W zs wr DX.out.in_ NZ.out).mono ?_
                  rintro e w6 ⟨d6, rfl, hd6, b6⟩
                  rw [hcE]
                  rw [hcS] at hd6
                  clear hcE hcS NZ
                  generalize comes ss W (zs.map Int.toNat) = SC at hd6 HCM HCC
                  obtain ⟨y1, y2, rfl, hy1, hy2⟩ := id hd6
                  obtain ⟨A12, n12, c12, rfl⟩ := secs_any hy1
                  obtain ⟨A13, n13, c13, rfl⟩ := wts_any hy2
                  have DC := Lib.hid hd6
                  clear hy1 hy2 hd6
                  clear k0 k1
                  have tBW := BW.out.trans (b6.mono BW.out.size)
                  have tXD := (b6.block _ (heap_lt XD.out)).trans XD.out
                  have tDD := DD.out.below b6
                  have tRL := RL.out.below b6
                  have tIK := (IK.out.below b6).more b6.size
                  have tXX := (b6.block _ (heap_lt XX.out)).trans XX.out
                  have tDX := DX.out.below b6
                  clear BW XD DD RL IK XX DX
                  have BW := Lib.hid tBW
                  have XD := Lib.hid tXD
                  have DD := Lib.hid tDD
                  have RL := Lib.hid tRL
                  have IK := Lib.hid tIK
                  have XX := Lib.hid tXX
                  have DX := Lib.hid tDX
                  clear tBW tXD tDD tRL tIK tXX tDX b6
                  obtain ⟨q7, hq7, q70, q7b⟩ : ∃ q : World, q = w6.alloc (.cells #[.slice A12 n12 c12, .slice A13 n13 c13] 29) ∧ q.heap[w6.heap.size]? = some (.cells #[.slice A12 n12 c12, .slice A13 n13 c13] 29 (0, 0)) ∧ Below w6.heap.size w6 q := ⟨_, rfl, heap_alloc_self _ _, below_new _ _⟩
                  have tBW := BW.out.trans (q7b.mono BW.out.size)
                  have tXD := (q7b.block _ (heap_lt XD.out)).trans XD.out
                  have tDD := DD.out.below q7b
                  have tRL := RL.out.below q7b
                  have tIK := (IK.out.below q7b).more q7b.size
                  have tXX := (q7b.block _ (heap_lt XX.out)).trans XX.out
                  have tDX := DX.out.below q7b
                  have tDC := DC.out.below q7b
                  clear BW XD DD RL IK XX DX DC
                  have BW := Lib.hid tBW
                  have XD := Lib.hid tXD
                  have DD := Lib.hid tDD
                  have RL := Lib.hid tRL
                  have IK := Lib.hid tIK
                  have XX := Lib.hid tXX
                  have DX := Lib.hid tDX
                  have DC := Lib.hid tDC
                  clear tBW tXD tDD tRL tIK tXX tDX tDC q7b
                  clear q70
                  go_wp2_with fail
                  rw [← hq7]
                  clear hq7
                  refine (sfind_any _ _ _ q7 DC.out.in_).mono ?_
                  rintro e w8 ⟨z8, rfl, hr8, b8⟩
                  rw [sync0 HCM.out]
                  have hfl : (findR SC []).length ≤ 2 := by rw [findR_may HCM.out]; exact find_length _
                  generalize findR SC [] = FC at hr8 HCC hfl
                  obtain ⟨A14, c14, rfl⟩ := hr8.slice
                  have RF := Lib.hid hr8.in_
                  have HFL := Lib.hid hfl
                  clear hr8 hfl
                  clear DC
                  have tBW := BW.out.trans (b8.mono BW.out.size)
                  have tXD := (b8.block _ (heap_lt XD.out)).trans XD.out
                  have tDD := DD.out.below b8
                  have tRL := RL.out.below b8
                  have tIK := (IK.out.below b8).more b8.size
                  have tXX := (b8.block _ (heap_lt XX.out)).trans XX.out
                  have tDX := DX.out.below b8
                  clear BW XD DD RL IK XX DX
                  have BW := Lib.hid tBW
                  have XD := Lib.hid tXD
                  have DD := Lib.hid tDD
                  have RL := Lib.hid tRL
                  have IK := Lib.hid tIK
                  have XX := Lib.hid tXX
                  have DX := Lib.hid tDX
                  clear tBW tXD tDD tRL tIK tXX tDX b8
                  go_upto_region 25 with fail
                  go_cut [146] from 37 to 211 (fun s146 wx => s146 = .bool false ∧ Below w8.heap.size w8 wx)
                  case first =>
                    by_cases hz : l.length = 0
                    · have hzb : decide ((0 : Int) < l.length) = false := decide_eq_false (by omega)
                      have hzc : decide (0 < l.length) = false := decide_eq_false (by omega)
                      have LB := Lib.hid (Below.refl w8.heap.size w8)
                      clear hz
                      go_wp2_with fail
                      go_meet
                      exact ⟨rfl, LB.out⟩
                    · have hzb : decide ((0 : Int) < l.length) = true := decide_eq_true (by omega)
                      have hzc : decide (0 < l.length) = true := decide_eq_true (by omega)
                      obtain ⟨k, hkk⟩ : ∃ k, l.length = k + 1 := ⟨l.length - 1, by omega⟩
                      have hkl : k < l.length := by omega
                      obtain ⟨b, off, u, rfl, hb0, hc0, hc1, ht⟩ := (RL.out.in_ BW.out).at (j := k) hkl
                      have hin := HCC.out l[k] (last_at hkk hkl)
                      generalize l[k] = y at hc0 ht hin
                      obtain ⟨A15, n15, c15, hu⟩ : ∃ A n c, u = .slice A n c := by obtain ⟨A, c, e, _⟩ := ht; exact ⟨A, _, c, e⟩
                      subst hu
                      have hki : (l.length : Int) - 1 = k := by omega
                      have hkl2 : (k : Int) < l.length := by omega
                      have hwk : IntKind.i64.wrap (k : Int) = (k : Int) := by simp [IntKind.wrap, IntKind.bits]; omega
                      have hkn : (0 : Int) ≤ k := by omega
                      have TY := Lib.hid ht
                      have HIN := Lib.hid (decide_eq_true hin : decide (y ∈ FC) = true)
                      clear ht hin hb0 hkk hkl hz
                      go_wp2_with fail
                      refine (among6 _ _ FC y w8 RF.out ⟨_, rfl, TY.out⟩ (by have := HFL.out; omega)).mono ?_
                      rintro e w9 ⟨rfl, b9⟩
                      rw [HIN.out]
                      have B9 := Lib.hid b9
                      clear b9
                      go_wp2_with fail
                      go_meet
                      exact ⟨rfl, B9.out⟩
                  case rest =>
                    obtain ⟨rfl, hbl⟩ := hcut
                    obtain ⟨w9, hw9⟩ : ∃ w9 : World, w9 = wc := ⟨_, rfl⟩
                    subst hw9
                    have tBW := BW.out.trans (hbl.mono BW.out.size)
                    have tXD := (hbl.block _ (heap_lt XD.out)).trans XD.out
                    have tDD := DD.out.below hbl
                    have tRL := RL.out.below hbl
                    have tIK := (IK.out.below hbl).more hbl.size
                    have tXX := (hbl.block _ (heap_lt XX.out)).trans XX.out
                    have tDX := DX.out.below hbl
                    clear BW XD DD RL IK XX DX
                    have BW := Lib.hid tBW
                    have XD := Lib.hid tXD
                    have DD := Lib.hid tDD
                    have RL := Lib.hid tRL
                    have IK := Lib.hid tIK
                    have XX := Lib.hid tXX
                    have DX := Lib.hid tDX
                    clear tBW tXD tDD tRL tIK tXX tDX hbl
                    clear HCC HCM HFL RF LBT5 ctc
                    obtain ⟨us, hu1, hu2, hu3, hu4⟩ := RL.out
                    have U1 := Lib.hid hu1
                    have U2 := Lib.hid hu2
                    have U4 := Lib.hid hu4
                    have ctc : w9.cell? ⟨bt, ot + l.length, none⟩ = some (.slice At t.length ct) := (BW.out.cell (p := ⟨bt, _, none⟩) LBT.out).trans CT.out
                    have hc8 := heap_alloc_self w9 (.cells #[.int .u32 (G : Int), .slice At t.length ct] 36)
                    have HC8 := Lib.hid hc8
                    have LW9 := Lib.hid BW.out.size
                    obtain ⟨i0, hi, hz0, hz1, hz2⟩ := info_parts infoRec
                    have I0 := Lib.hid hi
                    have I1 := Lib.hid hz0
                    have I2 := Lib.hid hz1
                    have I3 := Lib.hid hz2
                    clear hu1 hu2 hu3 hu4 hc8 hi hz0 hz1 hz2
                    go_upto_region 27 with fail
                    go_wp2_with ((with_reducible show wpList _ _ _ (⟨some 155, _, _, _, _, _⟩ :: _) _ _); refine wpList_append_any rfl (.tmp 147) (.tmp 154) _ rfl Try.underlying22 I0.out I1.out rfl I2.out (by decide) I3.out (by decide) rfl (owns_below U1.out (below_new w9 _)) (m := 1) rfl (news := [.int .u32 (G : Int), .slice At t.length ct]) rfl (fun j u hj => (cell_of_row _ _ j _ _ _ HC8.out).trans (by simpa using hj)) (by simp [Value.oneCell']) (by omega) (by have := LW9.out; simp; omega) ?_; intro v4 w10 hown4 hgrow4; obtain ⟨A7, c7, rfl⟩ := own_sliceN hown4; obtain ⟨kx0, kx1⟩ := cell2_of (heap_kept (owns_below U1.out (below_new w9 _)) hgrow4 (((below_new w9 _).block _ (heap_lt XX.out)).trans XX.out) (by decide)))
                    have hr10 : RecsOf w w10 w.heap.size (.slice A7 (l.length + 1) c7) (l ++ [(G, t)]) := RecsOf.snoc (r := (G, t)) U2.out (by unfold maxLen; omega) U4.out TT.out hown4
                    have ho9 := owns_below U1.out (below_new w9 (.cells #[.int .u32 (G : Int), .slice At t.length ct] 36))
                    have hn9 := below_new w9 (.cells #[.int .u32 (G : Int), .slice At t.length ct] 36)
                    have tXD := heap_kept ho9 hgrow4 ((hn9.block _ (heap_lt XD.out)).trans XD.out) (by decide)
                    have tXX := heap_kept ho9 hgrow4 ((hn9.block _ (heap_lt XX.out)).trans XX.out) (by decide)
                    have tDX := disk_kept ho9 hgrow4 (DX.out.below hn9)
                    have tBW : Below w.heap.size w w10 := (BW.out.alloc BW.out.size _).grown hgrow4 (by have := BW.out.size; simp; omega) (fun k hk => own_ge U1.out k hk)
                    clear BW XD XX DX RL DD ho9 hn9 hgrow4 hown4 U1 U2 U4 HC8 LW9 I0 I1 I2 I3 ctc
                    have BW := Lib.hid tBW
                    have XD := Lib.hid tXD
                    have XX := Lib.hid tXX
                    have DX := Lib.hid tDX
                    have RL := Lib.hid hr10
                    clear tBW tXD tXX tDX hr10 kx0 kx1
                    refine (sync_any _ ss W w10 DX.out.in_).mono ?_
                    rintro e w11 ⟨d11, rfl, hd11, b11⟩
                    have hsS : syncS ss W = viewL ss W := by rw [syncS, if_pos (mayB_iff.2 HM.out)]; rfl
                    rw [sync0 HM.out]
                    rw [hsS] at hd11
                    have hst : Turns (viewL ss W) (l ++ [(G, t)]) := by
                      have hw := HW.out
                      have hg := HG.out
                      subst hw hg
                      exact turns_step HT.out HOK.out
                    generalize viewL ss W = S2 at hd11 hst
                    have HST := Lib.hid hst
                    obtain ⟨F2, hF2⟩ : ∃ F2 : List Rc, F2 = (G, t) :: l.getLast?.toList := ⟨_, rfl⟩
                    have HF2 := Lib.hid hF2
                    have HFD : Hid (findR S2 [] = F2) := Lib.hid ((turns_found hst).trans hF2.symm)
                    clear hF2
                    obtain ⟨y1, y2, rfl, hy1, hy2⟩ := id hd11
                    obtain ⟨A15, n15, c15, rfl⟩ := secs_any hy1
                    obtain ⟨A16, n16, c16, rfl⟩ := wts_any hy2
                    have DS := Lib.hid (hd11.mono (BW.out.size))
                    clear hy1 hy2 hd11 hsS hst DX XX
                    have tBW := BW.out.trans (b11.mono BW.out.size)
                    have tXD := (b11.block _ (heap_lt XD.out)).trans XD.out
                    have tRL := RL.out.below b11
                    clear BW XD RL
                    have BW := Lib.hid tBW
                    have XD := Lib.hid tXD
                    have RL := Lib.hid tRL
                    clear tBW tXD tRL b11
                    obtain ⟨q12, hq12, q120, q12b⟩ : ∃ q : World, q = w11.alloc (.cells #[.slice A15 n15 c15, .slice A16 n16 c16] 29) ∧ q.heap[w11.heap.size]? = some (.cells #[.slice A15 n15 c15, .slice A16 n16 c16] 29 (0, 0)) ∧ Below w11.heap.size w11 q := ⟨_, rfl, heap_alloc_self _ _, below_new _ _⟩
                    have tBW := BW.out.trans (q12b.mono BW.out.size)
                    have tXD := (q12b.block _ (heap_lt XD.out)).trans XD.out
                    have tRL := RL.out.below q12b
                    have tDS := DS.out.below q12b
                    clear BW XD RL DS
                    have BW := Lib.hid tBW
                    have XD := Lib.hid tXD
                    have RL := Lib.hid tRL
                    have DS := Lib.hid tDS
                    clear tBW tXD tRL tDS q12b
                    have XS := Lib.hid q120
                    clear q120
                    
                    go_wp2_with fail
                    rw [← hq12]
                    clear hq12
                    generalize w11.heap.size = p12 at XS ⊢
                    refine (sfind_any _ _ _ q12 DS.out.in_).mono ?_
                    rintro e w13 ⟨z13, rfl, hr13, b13⟩
                    rw [sync0 HST.out.may]
                    rw [HFD.out] at hr13
                    obtain ⟨A17, c17, rfl⟩ := hr13.slice
                    have RF := Lib.hid hr13.in_
                    clear hr13
                    have tBW := BW.out.trans (b13.mono BW.out.size)
                    have tXD := (b13.block _ (heap_lt XD.out)).trans XD.out
                    have tRL := RL.out.below b13
                    have tDS := DS.out.below b13
                    have tXS := (b13.block _ (heap_lt XS.out)).trans XS.out
                    clear BW XD RL DS XS
                    have BW := Lib.hid tBW
                    have XD := Lib.hid tXD
                    have RL := Lib.hid tRL
                    have DS := Lib.hid tDS
                    have XS := Lib.hid tXS
                    clear tBW tXD tRL tDS tXS b13
                    go_upto_region 30 with fail
                    go_cut [210] from 37 to 211 (fun s210 wx => s210 = .bool false ∧ Below w13.heap.size w13 wx)
                    case first =>
                      have Q0 := Lib.hid (Below.refl w13.heap.size w13).drew
                      obtain ⟨bl, ol, ul, rfl, hbl, hn0, hn1, htn⟩ := (RL.out.in_ BW.out).at (j := l.length) (by simp)
                      have hel : (l ++ [(G, t)])[l.length]'(by simp) = (G, t) := by simp
                      rw [hel] at hn0 htn
                      obtain ⟨A18, n18, c18, hu⟩ : ∃ A n c, ul = .slice A n c := by obtain ⟨A, c, e, _⟩ := htn; exact ⟨A, _, c, e⟩
                      subst hu
                      have LBL := Lib.hid hbl
                      have N00 := Lib.hid hn0
                      have N01 := Lib.hid hn1
                      have TN0 := Lib.hid htn
                      have HLI : Hid (IntKind.i64.wrap (l.length : Int) = (l.length : Int)) := Lib.hid (by simp [IntKind.wrap, IntKind.bits]; omega)
                      by_cases hz : l.length = 0
                      · have hF : F2 = [(G, t)] := by rw [HF2.out, List.eq_nil_of_length_eq_zero hz]; rfl
                        subst hF
                        obtain ⟨bf, of_, uf, rfl, hbf, hf0, hf1, htf⟩ := RF.out.at (j := 0) (by simp)
                        obtain ⟨A19, n19, c19, hu⟩ : ∃ A n c, uf = .slice A n c := by obtain ⟨A, c, e, _⟩ := htf; exact ⟨A, _, c, e⟩
                        subst hu
                        have LBF := Lib.hid hbf
                        have F00 : Hid (w13.cell? ⟨bf, of_, none⟩ = some (.int .u32 (G : Int))) := Lib.hid (by simpa using hf0)
                        have F01 : Hid (w13.cell? ⟨bf, of_ + 1, none⟩ = some (.slice A19 n19 c19)) := Lib.hid (by simpa using hf1)
                        have TF0 := Lib.hid htf
                        have hm1 : ((l.length : Int) + 1 < 2) = True := eq_true (by omega)
                        have hm2 : ((1 : Int) != (l.length : Int) + 1) = false := by rw [bne_eq_false_iff_eq]; omega
                        have hm3 : decide ((1 : Int) < (l.length : Int) + 1) = false := decide_eq_false (by omega)
                        have hm4 : (min 2 ((l.length : Int) + 1)) = (l.length : Int) + 1 := by omega
                        have hm5 : decide (0 < (l.length : Int)) = false := decide_eq_false (by omega)
                        have hm6 : decide (0 < l.length) = false := decide_eq_false (by omega)
                        clear hz hel hn0 hn1 htn hf0 hf1 htf hbl hbf
                        as_aux_lemma =>
                          refine wp_region_held_drew (S := fun v => Below w13.heap.size w13 v) (by kernel_rfl) Q0.out (fun hHeld => ?_)
                          refine wpAnyH_take (i := 0) (v := ?_) rfl (by as_aux_lemma => kernel_rfl) (by as_aux_lemma => kernel_rfl) (by as_aux_lemma => kernel_rfl) (fun _ _ _ h => h) (Or.inl ⟨by rfl, ?_⟩) hHeld ?_
                          rotate_left
                          · intro w' hSw; go_simp; try with_reducible rfl
                          simp only [List.getElem_toArray, List.getElem_cons_succ, List.getElem_cons_zero, Act.put, List.setIfInBounds_toArray, List.set_cons_zero, List.set_cons_succ]
                          refine wpAnyH_take (i := 1) (v := ?_) rfl (by as_aux_lemma => kernel_rfl) (by as_aux_lemma => kernel_rfl) (by as_aux_lemma => kernel_rfl) (fun _ _ _ h => h) (Or.inl ⟨by rfl, ?_⟩) hHeld ?_
                          rotate_left
                          · intro w' hSw; go_simp; try with_reducible rfl
                          simp only [List.getElem_toArray, List.getElem_cons_succ, List.getElem_cons_zero, Act.put, List.setIfInBounds_toArray, List.set_cons_zero, List.set_cons_succ]
                          refine wpAnyH_take (i := 2) (v := ?_) rfl (by as_aux_lemma => kernel_rfl) (by as_aux_lemma => kernel_rfl) (by as_aux_lemma => kernel_rfl) (fun _ _ _ h => h) (Or.inl ⟨by rfl, ?_⟩) hHeld ?_
                          rotate_left
                          · intro w' hSw; go_simp; try with_reducible rfl
                          simp only [List.getElem_toArray, List.getElem_cons_succ, List.getElem_cons_zero, Act.put, List.setIfInBounds_toArray, List.set_cons_zero, List.set_cons_succ]
                          refine wpAnyH_take (i := 3) (v := ?_) rfl (by as_aux_lemma => kernel_rfl) (by as_aux_lemma => kernel_rfl) (by as_aux_lemma => kernel_rfl) (fun _ _ _ h => h) (Or.inl ⟨by rfl, ?_⟩) hHeld ?_
                          rotate_left
                          · intro w' hSw; go_simp; try with_reducible rfl
                          simp only [List.getElem_toArray, List.getElem_cons_succ, List.getElem_cons_zero, Act.put, List.setIfInBounds_toArray, List.set_cons_zero, List.set_cons_succ]
                          refine wpAnyH_take (i := 4) (v := ?_) rfl (by as_aux_lemma => kernel_rfl) (by as_aux_lemma => kernel_rfl) (by as_aux_lemma => kernel_rfl) (fun _ _ _ h => h) (Or.inl ⟨by rfl, ?_⟩) hHeld ?_
                          rotate_left
                          · intro w' hSw; go_simp; try with_reducible rfl
                          simp only [List.getElem_toArray, List.getElem_cons_succ, List.getElem_cons_zero, Act.put, List.setIfInBounds_toArray, List.set_cons_zero, List.set_cons_succ]
                          refine wpAnyH_take (i := 5) (v := ?_) rfl (by as_aux_lemma => kernel_rfl) (by as_aux_lemma => kernel_rfl) (by as_aux_lemma => kernel_rfl) (fun _ _ _ h => h) (Or.inl ⟨by rfl, ?_⟩) hHeld ?_
                          rotate_left
                          · intro w' hSw; go_simp; try with_reducible rfl
                          simp only [List.getElem_toArray, List.getElem_cons_succ, List.getElem_cons_zero, Act.put, List.setIfInBounds_toArray, List.set_cons_zero, List.set_cons_succ]
                          refine wpAnyH_take (i := 6) (v := ?_) rfl (by as_aux_lemma => kernel_rfl) (by as_aux_lemma => kernel_rfl) (by as_aux_lemma => kernel_rfl) (fun _ _ _ h => h) (Or.inl ⟨by rfl, ?_⟩) hHeld ?_
                          rotate_left
                          · intro w' hSw; go_simp; try with_reducible rfl
                          simp only [List.getElem_toArray, List.getElem_cons_succ, List.getElem_cons_zero, Act.put, List.setIfInBounds_toArray, List.set_cons_zero, List.set_cons_succ]
                          refine wpAnyH_take (i := 7) (v := ?_) rfl (by as_aux_lemma => kernel_rfl) (by as_aux_lemma => kernel_rfl) (by as_aux_lemma => kernel_rfl) (fun _ _ _ h => h) (Or.inl ⟨by rfl, ?_⟩) hHeld ?_
                          rotate_left
                          · intro w' hSw; go_simp; try with_reducible rfl
                          simp only [List.getElem_toArray, List.getElem_cons_succ, List.getElem_cons_zero, Act.put, List.setIfInBounds_toArray, List.set_cons_zero, List.set_cons_succ]
                          refine wpAnyH_take (i := 8) (v := ?_) rfl (by as_aux_lemma => kernel_rfl) (by as_aux_lemma => kernel_rfl) (by as_aux_lemma => kernel_rfl) (fun _ _ _ h => h) (Or.inl ⟨by rfl, ?_⟩) hHeld ?_
                          rotate_left
                          · intro w' hSw; go_simp; try with_reducible rfl
                          simp only [List.getElem_toArray, List.getElem_cons_succ, List.getElem_cons_zero, Act.put, List.setIfInBounds_toArray, List.set_cons_zero, List.set_cons_succ]
                          refine wpAnyH_take (i := 9) (v := ?_) rfl (by as_aux_lemma => kernel_rfl) (by as_aux_lemma => kernel_rfl) (by as_aux_lemma => kernel_rfl) (fun _ _ _ h => h) (Or.inl ⟨by rfl, ?_⟩) hHeld ?_
                          rotate_left
                          · intro w' hSw; go_simp; try with_reducible rfl
                          simp only [List.getElem_toArray, List.getElem_cons_succ, List.getElem_cons_zero, Act.put, List.setIfInBounds_toArray, List.set_cons_zero, List.set_cons_succ]
                          refine wpAnyH_take (i := 10) (v := ?_) rfl (by as_aux_lemma => kernel_rfl) (by as_aux_lemma => kernel_rfl) (by as_aux_lemma => kernel_rfl) (fun _ _ _ h => h) (Or.inl ⟨by rfl, ?_⟩) hHeld ?_
                          rotate_left
                          · intro w' hSw; go_simp; try with_reducible rfl
                          simp only [List.getElem_toArray, List.getElem_cons_succ, List.getElem_cons_zero, Act.put, List.setIfInBounds_toArray, List.set_cons_zero, List.set_cons_succ]
                          refine wpAnyH_take (i := 11) (v := ?_) rfl (by as_aux_lemma => kernel_rfl) (by as_aux_lemma => kernel_rfl) (by as_aux_lemma => kernel_rfl) (fun _ _ _ h => h) (Or.inl ⟨by rfl, ?_⟩) hHeld ?_
                          rotate_left
                          · intro w' hSw; go_simp; try with_reducible rfl
                          simp only [List.getElem_toArray, List.getElem_cons_succ, List.getElem_cons_zero, Act.put, List.setIfInBounds_toArray, List.set_cons_zero, List.set_cons_succ]
                          refine wpAnyH_take (i := 12) (v := ?_) rfl (by as_aux_lemma => kernel_rfl) (by as_aux_lemma => kernel_rfl) (by as_aux_lemma => kernel_rfl) (fun _ _ _ h => h) (Or.inl ⟨by rfl, ?_⟩) hHeld ?_
                          rotate_left
                          · intro w' hSw; go_simp; try with_reducible rfl
                          simp only [List.getElem_toArray, List.getElem_cons_succ, List.getElem_cons_zero, Act.put, List.setIfInBounds_toArray, List.set_cons_zero, List.set_cons_succ]
                          refine wpAnyH_take (i := 13) (v := ?_) rfl (by as_aux_lemma => kernel_rfl) (by as_aux_lemma => kernel_rfl) (by as_aux_lemma => kernel_rfl) (fun _ _ _ h => h) (Or.inl ⟨by rfl, ?_⟩) hHeld ?_
                          rotate_left
                          · intro w' hSw; go_simp; try with_reducible rfl
                          simp only [List.getElem_toArray, List.getElem_cons_succ, List.getElem_cons_zero, Act.put, List.setIfInBounds_toArray, List.set_cons_zero, List.set_cons_succ]
                          refine wpAnyH_take (i := 14) (v := ?_) rfl (by as_aux_lemma => kernel_rfl) (by as_aux_lemma => kernel_rfl) (by as_aux_lemma => kernel_rfl) (fun _ _ _ h => h) (Or.inl ⟨by rfl, ?_⟩) hHeld ?_
                          rotate_left
                          · intro w' hSw; go_simp; try with_reducible rfl
                          simp only [List.getElem_toArray, List.getElem_cons_succ, List.getElem_cons_zero, Act.put, List.setIfInBounds_toArray, List.set_cons_zero, List.set_cons_succ]
                          refine wpAnyH_take (i := 15) (v := ?_) rfl (by as_aux_lemma => kernel_rfl) (by as_aux_lemma => kernel_rfl) (by as_aux_lemma => kernel_rfl) (fun _ _ _ h => h) (Or.inl ⟨by rfl, ?_⟩) hHeld ?_
                          rotate_left
                          · intro w' hSw; go_simp; try with_reducible rfl
                          simp only [List.getElem_toArray, List.getElem_cons_succ, List.getElem_cons_zero, Act.put, List.setIfInBounds_toArray, List.set_cons_zero, List.set_cons_succ]
                          refine wpAnyH_take (i := 16) (v := ?_) rfl (by as_aux_lemma => kernel_rfl) (by as_aux_lemma => kernel_rfl) (by as_aux_lemma => kernel_rfl) (fun _ _ _ h => h) (Or.inl ⟨by rfl, ?_⟩) hHeld ?_
                          rotate_left
                          · intro w' hSw; go_simp; try with_reducible rfl
                          simp only [List.getElem_toArray, List.getElem_cons_succ, List.getElem_cons_zero, Act.put, List.setIfInBounds_toArray, List.set_cons_zero, List.set_cons_succ]
                          refine wpAnyH_take (i := 17) (v := ?_) rfl (by as_aux_lemma => kernel_rfl) (by as_aux_lemma => kernel_rfl) (by as_aux_lemma => kernel_rfl) (fun _ _ _ h => h) (Or.inl ⟨by rfl, ?_⟩) hHeld ?_
                          rotate_left
                          · intro w' hSw; have cu := (hSw.cell (p := ⟨bf, of_, none⟩) LBF.out).trans F00.out; have cv := (hSw.cell (p := ⟨bf, of_ + 1, none⟩) LBF.out).trans F01.out; go_simp; try with_reducible rfl
                          simp only [List.getElem_toArray, List.getElem_cons_succ, List.getElem_cons_zero, Act.put, List.setIfInBounds_toArray, List.set_cons_zero, List.set_cons_succ]
                          refine wpAnyH_take (i := 18) (v := ?_) rfl (by as_aux_lemma => kernel_rfl) (by as_aux_lemma => kernel_rfl) (by as_aux_lemma => kernel_rfl) (fun _ _ _ h => h) (Or.inl ⟨by rfl, ?_⟩) hHeld ?_
                          rotate_left
                          · intro w' hSw; go_simp; try with_reducible rfl
                          simp only [List.getElem_toArray, List.getElem_cons_succ, List.getElem_cons_zero, Act.put, List.setIfInBounds_toArray, List.set_cons_zero, List.set_cons_succ]
                          refine wpAnyH_take (i := 19) (v := ?_) rfl (by as_aux_lemma => kernel_rfl) (by as_aux_lemma => kernel_rfl) (by as_aux_lemma => kernel_rfl) (fun _ _ _ h => h) (Or.inl ⟨by rfl, ?_⟩) hHeld ?_
                          rotate_left
                          · intro w' hSw; go_simp; try with_reducible rfl
                          simp only [List.getElem_toArray, List.getElem_cons_succ, List.getElem_cons_zero, Act.put, List.setIfInBounds_toArray, List.set_cons_zero, List.set_cons_succ]
                          refine wpAnyH_take (i := 20) (v := ?_) rfl (by as_aux_lemma => kernel_rfl) (by as_aux_lemma => kernel_rfl) (by as_aux_lemma => kernel_rfl) (fun _ _ _ h => h) (Or.inl ⟨by rfl, ?_⟩) hHeld ?_
                          rotate_left
                          · intro w' hSw; go_simp; try with_reducible rfl
                          simp only [List.getElem_toArray, List.getElem_cons_succ, List.getElem_cons_zero, Act.put, List.setIfInBounds_toArray, List.set_cons_zero, List.set_cons_succ]
                          refine wpAnyH_take (i := 21) (v := ?_) rfl (by as_aux_lemma => kernel_rfl) (by as_aux_lemma => kernel_rfl) (by as_aux_lemma => kernel_rfl) (fun _ _ _ h => h) (Or.inl ⟨by rfl, ?_⟩) hHeld ?_
                          rotate_left
                          · intro w' hSw; have hli := HLI.out; go_simp; try with_reducible rfl
                          simp only [List.getElem_toArray, List.getElem_cons_succ, List.getElem_cons_zero, Act.put, List.setIfInBounds_toArray, List.set_cons_zero, List.set_cons_succ]
                          refine wpAnyH_take (i := 22) (v := ?_) rfl (by as_aux_lemma => kernel_rfl) (by as_aux_lemma => kernel_rfl) (by as_aux_lemma => kernel_rfl) (fun _ _ _ h => h) (Or.inl ⟨by rfl, ?_⟩) hHeld ?_
                          rotate_left
                          · intro w' hSw; have hln : (l.length : Int) < (l.length : Int) + 1 := (by omega); go_simp; try with_reducible rfl
                          simp only [List.getElem_toArray, List.getElem_cons_succ, List.getElem_cons_zero, Act.put, List.setIfInBounds_toArray, List.set_cons_zero, List.set_cons_succ]
                          refine wpAnyH_take (i := 23) (v := ?_) rfl (by as_aux_lemma => kernel_rfl) (by as_aux_lemma => kernel_rfl) (by as_aux_lemma => kernel_rfl) (fun _ _ _ h => h) (Or.inl ⟨by rfl, ?_⟩) hHeld ?_
                          rotate_left
                          · intro w' hSw; have cu := (hSw.cell (p := ⟨bl, ol + l.length * 2, none⟩) LBL.out).trans N00.out; have cv := (hSw.cell (p := ⟨bl, ol + l.length * 2 + 1, none⟩) LBL.out).trans N01.out; have hli := HLI.out; go_simp; try with_reducible rfl
                          simp only [List.getElem_toArray, List.getElem_cons_succ, List.getElem_cons_zero, Act.put, List.setIfInBounds_toArray, List.set_cons_zero, List.set_cons_succ]
                          refine wpAnyH_ready (rs := [24]) (by as_aux_lemma => kernel_rfl) (by simp) ?_
                          refine AllReadyH.cons rfl (fun K hK => ?_) AllReadyH.nil
                          go_simp
                          refine (same6 _ _ (G, t) (G, t) _ ⟨_, rfl, (TF0.out.below Q0.out).more Q0.out.size⟩ ⟨_, rfl, (TN0.out.below Q0.out).more Q0.out.size⟩).mono ?_
                          rintro e qa ⟨rfl, bA⟩
                          rw [decide_eq_true (rfl : (G, t) = (G, t))]
                          have QA := Lib.hid (Q0.out.trans (bA.mono Q0.out.size))
                          clear bA
                          try go_wp2_with fail
                          refine hK.out _ _ ?_ (fun hHeld => ?_)
                          · exact QA.out
                          clear hK K
                          try simp only [List.getElem_toArray, List.getElem_cons_succ, List.getElem_cons_zero, Act.put, List.setIfInBounds_toArray, List.set_cons_zero, List.set_cons_succ]
                          refine wpAnyH_take (i := 25) (v := ?_) rfl (by as_aux_lemma => kernel_rfl) (by as_aux_lemma => kernel_rfl) (by as_aux_lemma => kernel_rfl) (fun _ _ _ h => h) (Or.inl ⟨by rfl, ?_⟩) hHeld ?_
                          rotate_left
                          · intro w' hSw; go_simp; try with_reducible rfl
                          simp only [List.getElem_toArray, List.getElem_cons_succ, List.getElem_cons_zero, Act.put, List.setIfInBounds_toArray, List.set_cons_zero, List.set_cons_succ]
                          refine wpAnyH_take (i := 26) (v := ?_) rfl (by as_aux_lemma => kernel_rfl) (by as_aux_lemma => kernel_rfl) (by as_aux_lemma => kernel_rfl) (fun _ _ _ h => h) (Or.inl ⟨by rfl, ?_⟩) hHeld ?_
                          rotate_left
                          · intro w' hSw; go_simp; try with_reducible rfl
                          simp only [List.getElem_toArray, List.getElem_cons_succ, List.getElem_cons_zero, Act.put, List.setIfInBounds_toArray, List.set_cons_zero, List.set_cons_succ]
                          refine wpAnyH_take (i := 27) (v := ?_) rfl (by as_aux_lemma => kernel_rfl) (by as_aux_lemma => kernel_rfl) (by as_aux_lemma => kernel_rfl) (fun _ _ _ h => h) (Or.inl ⟨by rfl, ?_⟩) hHeld ?_
                          rotate_left
                          · intro w' hSw; go_simp; try with_reducible rfl
                          simp only [List.getElem_toArray, List.getElem_cons_succ, List.getElem_cons_zero, Act.put, List.setIfInBounds_toArray, List.set_cons_zero, List.set_cons_succ]
                          refine wpAnyH_take (i := 28) (v := ?_) rfl (by as_aux_lemma => kernel_rfl) (by as_aux_lemma => kernel_rfl) (by as_aux_lemma => kernel_rfl) (fun _ _ _ h => h) (Or.inl ⟨by rfl, ?_⟩) hHeld ?_
                          rotate_left
                          · intro w' hSw; go_simp; try with_reducible rfl
                          simp only [List.getElem_toArray, List.getElem_cons_succ, List.getElem_cons_zero, Act.put, List.setIfInBounds_toArray, List.set_cons_zero, List.set_cons_succ]
                          refine wpAnyH_take (i := 29) (v := ?_) rfl (by as_aux_lemma => kernel_rfl) (by as_aux_lemma => kernel_rfl) (by as_aux_lemma => kernel_rfl) (fun _ _ _ h => h) (Or.inl ⟨by rfl, ?_⟩) hHeld ?_
                          rotate_left
                          · intro w' hSw; go_simp; try with_reducible rfl
                          simp only [List.getElem_toArray, List.getElem_cons_succ, List.getElem_cons_zero, Act.put, List.setIfInBounds_toArray, List.set_cons_zero, List.set_cons_succ]
                          refine wpAnyH_take (i := 30) (v := ?_) rfl (by as_aux_lemma => kernel_rfl) (by as_aux_lemma => kernel_rfl) (by as_aux_lemma => kernel_rfl) (fun _ _ _ h => h) (Or.inl ⟨by rfl, ?_⟩) hHeld ?_
                          rotate_left
                          · intro w' hSw; go_simp; try with_reducible rfl
                          simp only [List.getElem_toArray, List.getElem_cons_succ, List.getElem_cons_zero, Act.put, List.setIfInBounds_toArray, List.set_cons_zero, List.set_cons_succ]
                          refine wpAnyH_take (i := 31) (v := ?_) rfl (by as_aux_lemma => kernel_rfl) (by as_aux_lemma => kernel_rfl) (by as_aux_lemma => kernel_rfl) (fun _ _ _ h => h) (Or.inl ⟨by rfl, ?_⟩) hHeld ?_
                          rotate_left
                          · intro w' hSw; go_simp; try with_reducible rfl
                          simp only [List.getElem_toArray, List.getElem_cons_succ, List.getElem_cons_zero, Act.put, List.setIfInBounds_toArray, List.set_cons_zero, List.set_cons_succ]
                          refine wpAnyH_take (i := 32) (v := undef) rfl (by as_aux_lemma => kernel_rfl) (by as_aux_lemma => kernel_rfl) (by as_aux_lemma => kernel_rfl) (fun _ _ _ h => h) (Or.inr ⟨by rfl, rfl⟩) hHeld ?_
                          simp only [List.getElem_toArray, List.getElem_cons_succ, List.getElem_cons_zero, Act.put, List.setIfInBounds_toArray, List.set_cons_zero, List.set_cons_succ]
                          refine wpAnyH_take (i := 33) (v := undef) rfl (by as_aux_lemma => kernel_rfl) (by as_aux_lemma => kernel_rfl) (by as_aux_lemma => kernel_rfl) (fun _ _ _ h => h) (Or.inr ⟨by rfl, rfl⟩) hHeld ?_
                          simp only [List.getElem_toArray, List.getElem_cons_succ, List.getElem_cons_zero, Act.put, List.setIfInBounds_toArray, List.set_cons_zero, List.set_cons_succ]
                          refine wpAnyH_take (i := 34) (v := undef) rfl (by as_aux_lemma => kernel_rfl) (by as_aux_lemma => kernel_rfl) (by as_aux_lemma => kernel_rfl) (fun _ _ _ h => h) (Or.inr ⟨by rfl, rfl⟩) hHeld ?_
                          simp only [List.getElem_toArray, List.getElem_cons_succ, List.getElem_cons_zero, Act.put, List.setIfInBounds_toArray, List.set_cons_zero, List.set_cons_succ]
                          refine wpAnyH_take (i := 35) (v := undef) rfl (by as_aux_lemma => kernel_rfl) (by as_aux_lemma => kernel_rfl) (by as_aux_lemma => kernel_rfl) (fun _ _ _ h => h) (Or.inr ⟨by rfl, rfl⟩) hHeld ?_
                          simp only [List.getElem_toArray, List.getElem_cons_succ, List.getElem_cons_zero, Act.put, List.setIfInBounds_toArray, List.set_cons_zero, List.set_cons_succ]
                          refine wpAnyH_take (i := 36) (v := undef) rfl (by as_aux_lemma => kernel_rfl) (by as_aux_lemma => kernel_rfl) (by as_aux_lemma => kernel_rfl) (fun _ _ _ h => h) (Or.inr ⟨by rfl, rfl⟩) hHeld ?_
                          simp only [List.getElem_toArray, List.getElem_cons_succ, List.getElem_cons_zero, Act.put, List.setIfInBounds_toArray, List.set_cons_zero, List.set_cons_succ]
                          refine wpAnyH_take (i := 37) (v := undef) rfl (by as_aux_lemma => kernel_rfl) (by as_aux_lemma => kernel_rfl) (by as_aux_lemma => kernel_rfl) (fun _ _ _ h => h) (Or.inr ⟨by rfl, rfl⟩) hHeld ?_
                          simp only [List.getElem_toArray, List.getElem_cons_succ, List.getElem_cons_zero, Act.put, List.setIfInBounds_toArray, List.set_cons_zero, List.set_cons_succ]
                          refine wpAnyH_take (i := 38) (v := undef) rfl (by as_aux_lemma => kernel_rfl) (by as_aux_lemma => kernel_rfl) (by as_aux_lemma => kernel_rfl) (fun _ _ _ h => h) (Or.inr ⟨by rfl, rfl⟩) hHeld ?_
                          simp only [List.getElem_toArray, List.getElem_cons_succ, List.getElem_cons_zero, Act.put, List.setIfInBounds_toArray, List.set_cons_zero, List.set_cons_succ]
                          refine wpAnyH_take (i := 39) (v := undef) rfl (by as_aux_lemma => kernel_rfl) (by as_aux_lemma => kernel_rfl) (by as_aux_lemma => kernel_rfl) (fun _ _ _ h => h) (Or.inr ⟨by rfl, rfl⟩) hHeld ?_
                          simp only [List.getElem_toArray, List.getElem_cons_succ, List.getElem_cons_zero, Act.put, List.setIfInBounds_toArray, List.set_cons_zero, List.set_cons_succ]
                          refine wpAnyH_take (i := 40) (v := undef) rfl (by as_aux_lemma => kernel_rfl) (by as_aux_lemma => kernel_rfl) (by as_aux_lemma => kernel_rfl) (fun _ _ _ h => h) (Or.inr ⟨by rfl, rfl⟩) hHeld ?_
                          simp only [List.getElem_toArray, List.getElem_cons_succ, List.getElem_cons_zero, Act.put, List.setIfInBounds_toArray, List.set_cons_zero, List.set_cons_succ]
                          refine wpAnyH_take (i := 41) (v := undef) rfl (by as_aux_lemma => kernel_rfl) (by as_aux_lemma => kernel_rfl) (by as_aux_lemma => kernel_rfl) (fun _ _ _ h => h) (Or.inr ⟨by rfl, rfl⟩) hHeld ?_
                          simp only [List.getElem_toArray, List.getElem_cons_succ, List.getElem_cons_zero, Act.put, List.setIfInBounds_toArray, List.set_cons_zero, List.set_cons_succ]
                          refine wpAnyH_take (i := 42) (v := undef) rfl (by as_aux_lemma => kernel_rfl) (by as_aux_lemma => kernel_rfl) (by as_aux_lemma => kernel_rfl) (fun _ _ _ h => h) (Or.inr ⟨by rfl, rfl⟩) hHeld ?_
                          simp only [List.getElem_toArray, List.getElem_cons_succ, List.getElem_cons_zero, Act.put, List.setIfInBounds_toArray, List.set_cons_zero, List.set_cons_succ]
                          refine wpAnyH_take (i := 43) (v := ?_) rfl (by as_aux_lemma => kernel_rfl) (by as_aux_lemma => kernel_rfl) (by as_aux_lemma => kernel_rfl) (fun _ _ _ h => h) (Or.inl ⟨by rfl, ?_⟩) hHeld ?_
                          rotate_left
                          · intro w' hSw; go_simp; try with_reducible rfl
                          simp only [List.getElem_toArray, List.getElem_cons_succ, List.getElem_cons_zero, Act.put, List.setIfInBounds_toArray, List.set_cons_zero, List.set_cons_succ]
                          refine wpAnyH_take (i := 44) (v := ?_) rfl (by as_aux_lemma => kernel_rfl) (by as_aux_lemma => kernel_rfl) (by as_aux_lemma => kernel_rfl) (fun _ _ _ h => h) (Or.inl ⟨by rfl, ?_⟩) hHeld ?_
                          rotate_left
                          · intro w' hSw; go_simp; try with_reducible rfl
                          simp only [List.getElem_toArray, List.getElem_cons_succ, List.getElem_cons_zero, Act.put, List.setIfInBounds_toArray, List.set_cons_zero, List.set_cons_succ]
                          refine wpAnyH_done (by as_aux_lemma => kernel_rfl) ?_ _
                          go_wp2_with fail
                          go_meet
                          exact ⟨rfl, QA.out⟩
                      · obtain ⟨k, hkk⟩ : ∃ k, l.length = k + 1 := ⟨l.length - 1, by omega⟩
                        have hkl : k < l.length := by omega
                        obtain ⟨y, hy⟩ : ∃ y, l[k] = y := ⟨_, rfl⟩
                        have hF : F2 = [(G, t), y] := by rw [HF2.out, last_at hkk hkl, hy]; rfl
                        subst hF
                        obtain ⟨bl', ol', ul2, hA, -, hn2, hn3, htn2⟩ := (RL.out.in_ BW.out).at (j := k) (by rw [List.length_append, List.length_singleton]; omega)
                        cases hA
                        have hel2 : (l ++ [(G, t)])[k]'(by rw [List.length_append, List.length_singleton]; omega) = y := by rw [List.getElem_append_left hkl, hy]
                        rw [hel2] at hn2 htn2
                        obtain ⟨A20, n20, c20, hu⟩ : ∃ A n c, ul2 = .slice A n c := by obtain ⟨A, c, e, _⟩ := htn2; exact ⟨A, _, c, e⟩
                        subst hu
                        have N10 := Lib.hid hn2
                        have N11 := Lib.hid hn3
                        have TN1 := Lib.hid htn2
                        obtain ⟨bf, of_, uf, rfl, hbf, hf0, hf1, htf⟩ := RF.out.at (j := 0) (by simp)
                        obtain ⟨bf', of', uf2, hA, -, hf2, hf3, htf2⟩ := RF.out.at (j := 1) (by simp)
                        cases hA
                        obtain ⟨A19, n19, c19, hu⟩ : ∃ A n c, uf = .slice A n c := by obtain ⟨A, c, e, _⟩ := htf; exact ⟨A, _, c, e⟩
                        subst hu
                        obtain ⟨A21, n21, c21, hu⟩ : ∃ A n c, uf2 = .slice A n c := by obtain ⟨A, c, e, _⟩ := htf2; exact ⟨A, _, c, e⟩
                        subst hu
                        have LBF := Lib.hid hbf
                        have F00 : Hid (w13.cell? ⟨bf, of_, none⟩ = some (.int .u32 (G : Int))) := Lib.hid (by simpa using hf0)
                        have F01 : Hid (w13.cell? ⟨bf, of_ + 1, none⟩ = some (.slice A19 n19 c19)) := Lib.hid (by simpa using hf1)
                        have F10 : Hid (w13.cell? ⟨bf, of_ + 2, none⟩ = some (.int .u32 (y.1 : Int))) := Lib.hid (by simpa using hf2)
                        have F11 : Hid (w13.cell? ⟨bf, of_ + 3, none⟩ = some (.slice A21 n21 c21)) := Lib.hid (by simpa using hf3)
                        have TF0 := Lib.hid htf
                        have TF1 := Lib.hid htf2
                        have HLJ : Hid (IntKind.i64.wrap (k : Int) = (k : Int)) := Lib.hid (by simp [IntKind.wrap, IntKind.bits]; omega)
                        have hm1 : ((l.length : Int) + 1 < 2) = False := eq_false (by omega)
                        have hm3 : decide ((1 : Int) < (l.length : Int) + 1) = true := decide_eq_true (by omega)
                        have hm4 : (min 2 ((l.length : Int) + 1)) = 2 := by omega
                        have hm5 : decide (0 < (l.length : Int)) = true := decide_eq_true (by omega)
                        have hm6 : decide (0 < l.length) = true := decide_eq_true (by omega)
                        have hm7 : (l.length : Int) + 1 - 2 = k := by omega
                        have hm8 : (l.length : Int) - 1 = k := by omega
                        have hm9 : (k : Int) < (l.length : Int) + 1 := by omega
                        clear hz hel hel2 hn0 hn1 htn hn2 hn3 htn2 hf0 hf1 htf hf2 hf3 htf2 hbl hbf hkk hkl hy
                        as_aux_lemma =>
                          refine wp_region_held_drew (S := fun v => Below w13.heap.size w13 v) (by kernel_rfl) Q0.out (fun hHeld => ?_)
                          refine wpAnyH_take (i := 0) (v := ?_) rfl (by as_aux_lemma => kernel_rfl) (by as_aux_lemma => kernel_rfl) (by as_aux_lemma => kernel_rfl) (fun _ _ _ h => h) (Or.inl ⟨by rfl, ?_⟩) hHeld ?_
                          rotate_left
                          · intro w' hSw; go_simp; try with_reducible rfl
                          simp only [List.getElem_toArray, List.getElem_cons_succ, List.getElem_cons_zero, Act.put, List.setIfInBounds_toArray, List.set_cons_zero, List.set_cons_succ]
                          refine wpAnyH_take (i := 1) (v := ?_) rfl (by as_aux_lemma => kernel_rfl) (by as_aux_lemma => kernel_rfl) (by as_aux_lemma => kernel_rfl) (fun _ _ _ h => h) (Or.inl ⟨by rfl, ?_⟩) hHeld ?_
                          rotate_left
                          · intro w' hSw; go_simp; try with_reducible rfl
                          simp only [List.getElem_toArray, List.getElem_cons_succ, List.getElem_cons_zero, Act.put, List.setIfInBounds_toArray, List.set_cons_zero, List.set_cons_succ]
                          refine wpAnyH_take (i := 2) (v := ?_) rfl (by as_aux_lemma => kernel_rfl) (by as_aux_lemma => kernel_rfl) (by as_aux_lemma => kernel_rfl) (fun _ _ _ h => h) (Or.inl ⟨by rfl, ?_⟩) hHeld ?_
                          rotate_left
                          · intro w' hSw; go_simp; try with_reducible rfl
                          simp only [List.getElem_toArray, List.getElem_cons_succ, List.getElem_cons_zero, Act.put, List.setIfInBounds_toArray, List.set_cons_zero, List.set_cons_succ]
                          refine wpAnyH_take (i := 3) (v := ?_) rfl (by as_aux_lemma => kernel_rfl) (by as_aux_lemma => kernel_rfl) (by as_aux_lemma => kernel_rfl) (fun _ _ _ h => h) (Or.inl ⟨by rfl, ?_⟩) hHeld ?_
                          rotate_left
                          · intro w' hSw; go_simp; try with_reducible rfl
                          simp only [List.getElem_toArray, List.getElem_cons_succ, List.getElem_cons_zero, Act.put, List.setIfInBounds_toArray, List.set_cons_zero, List.set_cons_succ]
                          refine wpAnyH_take (i := 4) (v := ?_) rfl (by as_aux_lemma => kernel_rfl) (by as_aux_lemma => kernel_rfl) (by as_aux_lemma => kernel_rfl) (fun _ _ _ h => h) (Or.inl ⟨by rfl, ?_⟩) hHeld ?_
                          rotate_left
                          · intro w' hSw; go_simp; try with_reducible rfl
                          simp only [List.getElem_toArray, List.getElem_cons_succ, List.getElem_cons_zero, Act.put, List.setIfInBounds_toArray, List.set_cons_zero, List.set_cons_succ]
                          refine wpAnyH_take (i := 5) (v := ?_) rfl (by as_aux_lemma => kernel_rfl) (by as_aux_lemma => kernel_rfl) (by as_aux_lemma => kernel_rfl) (fun _ _ _ h => h) (Or.inl ⟨by rfl, ?_⟩) hHeld ?_
                          rotate_left
                          · intro w' hSw; go_simp; try with_reducible rfl
                          simp only [List.getElem_toArray, List.getElem_cons_succ, List.getElem_cons_zero, Act.put, List.setIfInBounds_toArray, List.set_cons_zero, List.set_cons_succ]
                          refine wpAnyH_take (i := 6) (v := ?_) rfl (by as_aux_lemma => kernel_rfl) (by as_aux_lemma => kernel_rfl) (by as_aux_lemma => kernel_rfl) (fun _ _ _ h => h) (Or.inl ⟨by rfl, ?_⟩) hHeld ?_
                          rotate_left
                          · intro w' hSw; go_simp; try with_reducible rfl
                          simp only [List.getElem_toArray, List.getElem_cons_succ, List.getElem_cons_zero, Act.put, List.setIfInBounds_toArray, List.set_cons_zero, List.set_cons_succ]
                          refine wpAnyH_take (i := 7) (v := ?_) rfl (by as_aux_lemma => kernel_rfl) (by as_aux_lemma => kernel_rfl) (by as_aux_lemma => kernel_rfl) (fun _ _ _ h => h) (Or.inl ⟨by rfl, ?_⟩) hHeld ?_
                          rotate_left
                          · intro w' hSw; go_simp; try with_reducible rfl
                          simp only [List.getElem_toArray, List.getElem_cons_succ, List.getElem_cons_zero, Act.put, List.setIfInBounds_toArray, List.set_cons_zero, List.set_cons_succ]
                          refine wpAnyH_take (i := 8) (v := ?_) rfl (by as_aux_lemma => kernel_rfl) (by as_aux_lemma => kernel_rfl) (by as_aux_lemma => kernel_rfl) (fun _ _ _ h => h) (Or.inl ⟨by rfl, ?_⟩) hHeld ?_
                          rotate_left
                          · intro w' hSw; go_simp; try with_reducible rfl
                          simp only [List.getElem_toArray, List.getElem_cons_succ, List.getElem_cons_zero, Act.put, List.setIfInBounds_toArray, List.set_cons_zero, List.set_cons_succ]
                          refine wpAnyH_take (i := 9) (v := ?_) rfl (by as_aux_lemma => kernel_rfl) (by as_aux_lemma => kernel_rfl) (by as_aux_lemma => kernel_rfl) (fun _ _ _ h => h) (Or.inl ⟨by rfl, ?_⟩) hHeld ?_
                          rotate_left
                          · intro w' hSw; go_simp; try with_reducible rfl
                          simp only [List.getElem_toArray, List.getElem_cons_succ, List.getElem_cons_zero, Act.put, List.setIfInBounds_toArray, List.set_cons_zero, List.set_cons_succ]
                          refine wpAnyH_take (i := 10) (v := ?_) rfl (by as_aux_lemma => kernel_rfl) (by as_aux_lemma => kernel_rfl) (by as_aux_lemma => kernel_rfl) (fun _ _ _ h => h) (Or.inl ⟨by rfl, ?_⟩) hHeld ?_
                          rotate_left
                          · intro w' hSw; go_simp; try with_reducible rfl
                          simp only [List.getElem_toArray, List.getElem_cons_succ, List.getElem_cons_zero, Act.put, List.setIfInBounds_toArray, List.set_cons_zero, List.set_cons_succ]
                          refine wpAnyH_take (i := 11) (v := ?_) rfl (by as_aux_lemma => kernel_rfl) (by as_aux_lemma => kernel_rfl) (by as_aux_lemma => kernel_rfl) (fun _ _ _ h => h) (Or.inl ⟨by rfl, ?_⟩) hHeld ?_
                          rotate_left
                          · intro w' hSw; go_simp; try with_reducible rfl
                          simp only [List.getElem_toArray, List.getElem_cons_succ, List.getElem_cons_zero, Act.put, List.setIfInBounds_toArray, List.set_cons_zero, List.set_cons_succ]
                          refine wpAnyH_take (i := 12) (v := ?_) rfl (by as_aux_lemma => kernel_rfl) (by as_aux_lemma => kernel_rfl) (by as_aux_lemma => kernel_rfl) (fun _ _ _ h => h) (Or.inl ⟨by rfl, ?_⟩) hHeld ?_
                          rotate_left
                          · intro w' hSw; go_simp; try with_reducible rfl
                          simp only [List.getElem_toArray, List.getElem_cons_succ, List.getElem_cons_zero, Act.put, List.setIfInBounds_toArray, List.set_cons_zero, List.set_cons_succ]
                          refine wpAnyH_take (i := 13) (v := ?_) rfl (by as_aux_lemma => kernel_rfl) (by as_aux_lemma => kernel_rfl) (by as_aux_lemma => kernel_rfl) (fun _ _ _ h => h) (Or.inl ⟨by rfl, ?_⟩) hHeld ?_
                          rotate_left
                          · intro w' hSw; go_simp; try with_reducible rfl
                          simp only [List.getElem_toArray, List.getElem_cons_succ, List.getElem_cons_zero, Act.put, List.setIfInBounds_toArray, List.set_cons_zero, List.set_cons_succ]
                          refine wpAnyH_take (i := 14) (v := ?_) rfl (by as_aux_lemma => kernel_rfl) (by as_aux_lemma => kernel_rfl) (by as_aux_lemma => kernel_rfl) (fun _ _ _ h => h) (Or.inl ⟨by rfl, ?_⟩) hHeld ?_
                          rotate_left
                          · intro w' hSw; go_simp; try with_reducible rfl
                          simp only [List.getElem_toArray, List.getElem_cons_succ, List.getElem_cons_zero, Act.put, List.setIfInBounds_toArray, List.set_cons_zero, List.set_cons_succ]
                          refine wpAnyH_take (i := 15) (v := ?_) rfl (by as_aux_lemma => kernel_rfl) (by as_aux_lemma => kernel_rfl) (by as_aux_lemma => kernel_rfl) (fun _ _ _ h => h) (Or.inl ⟨by rfl, ?_⟩) hHeld ?_
                          rotate_left
                          · intro w' hSw; go_simp; try with_reducible rfl
                          simp only [List.getElem_toArray, List.getElem_cons_succ, List.getElem_cons_zero, Act.put, List.setIfInBounds_toArray, List.set_cons_zero, List.set_cons_succ]
                          refine wpAnyH_take (i := 16) (v := ?_) rfl (by as_aux_lemma => kernel_rfl) (by as_aux_lemma => kernel_rfl) (by as_aux_lemma => kernel_rfl) (fun _ _ _ h => h) (Or.inl ⟨by rfl, ?_⟩) hHeld ?_
                          rotate_left
                          · intro w' hSw; go_simp; try with_reducible rfl
                          simp only [List.getElem_toArray, List.getElem_cons_succ, List.getElem_cons_zero, Act.put, List.setIfInBounds_toArray, List.set_cons_zero, List.set_cons_succ]
                          refine wpAnyH_take (i := 17) (v := ?_) rfl (by as_aux_lemma => kernel_rfl) (by as_aux_lemma => kernel_rfl) (by as_aux_lemma => kernel_rfl) (fun _ _ _ h => h) (Or.inl ⟨by rfl, ?_⟩) hHeld ?_
                          rotate_left
                          · intro w' hSw; have cu := (hSw.cell (p := ⟨bf, of_, none⟩) LBF.out).trans F00.out; have cv := (hSw.cell (p := ⟨bf, of_ + 1, none⟩) LBF.out).trans F01.out; go_simp; try with_reducible rfl
                          simp only [List.getElem_toArray, List.getElem_cons_succ, List.getElem_cons_zero, Act.put, List.setIfInBounds_toArray, List.set_cons_zero, List.set_cons_succ]
                          refine wpAnyH_take (i := 18) (v := ?_) rfl (by as_aux_lemma => kernel_rfl) (by as_aux_lemma => kernel_rfl) (by as_aux_lemma => kernel_rfl) (fun _ _ _ h => h) (Or.inl ⟨by rfl, ?_⟩) hHeld ?_
                          rotate_left
                          · intro w' hSw; go_simp; try with_reducible rfl
                          simp only [List.getElem_toArray, List.getElem_cons_succ, List.getElem_cons_zero, Act.put, List.setIfInBounds_toArray, List.set_cons_zero, List.set_cons_succ]
                          refine wpAnyH_take (i := 19) (v := ?_) rfl (by as_aux_lemma => kernel_rfl) (by as_aux_lemma => kernel_rfl) (by as_aux_lemma => kernel_rfl) (fun _ _ _ h => h) (Or.inl ⟨by rfl, ?_⟩) hHeld ?_
                          rotate_left
                          · intro w' hSw; go_simp; try with_reducible rfl
                          simp only [List.getElem_toArray, List.getElem_cons_succ, List.getElem_cons_zero, Act.put, List.setIfInBounds_toArray, List.set_cons_zero, List.set_cons_succ]
                          refine wpAnyH_take (i := 20) (v := ?_) rfl (by as_aux_lemma => kernel_rfl) (by as_aux_lemma => kernel_rfl) (by as_aux_lemma => kernel_rfl) (fun _ _ _ h => h) (Or.inl ⟨by rfl, ?_⟩) hHeld ?_
                          rotate_left
                          · intro w' hSw; go_simp; try with_reducible rfl
                          simp only [List.getElem_toArray, List.getElem_cons_succ, List.getElem_cons_zero, Act.put, List.setIfInBounds_toArray, List.set_cons_zero, List.set_cons_succ]
                          refine wpAnyH_take (i := 21) (v := ?_) rfl (by as_aux_lemma => kernel_rfl) (by as_aux_lemma => kernel_rfl) (by as_aux_lemma => kernel_rfl) (fun _ _ _ h => h) (Or.inl ⟨by rfl, ?_⟩) hHeld ?_
                          rotate_left
                          · intro w' hSw; have hli := HLI.out; go_simp; try with_reducible rfl
                          simp only [List.getElem_toArray, List.getElem_cons_succ, List.getElem_cons_zero, Act.put, List.setIfInBounds_toArray, List.set_cons_zero, List.set_cons_succ]
                          refine wpAnyH_take (i := 22) (v := ?_) rfl (by as_aux_lemma => kernel_rfl) (by as_aux_lemma => kernel_rfl) (by as_aux_lemma => kernel_rfl) (fun _ _ _ h => h) (Or.inl ⟨by rfl, ?_⟩) hHeld ?_
                          rotate_left
                          · intro w' hSw; have hln : (l.length : Int) < (l.length : Int) + 1 := (by omega); go_simp; try with_reducible rfl
                          simp only [List.getElem_toArray, List.getElem_cons_succ, List.getElem_cons_zero, Act.put, List.setIfInBounds_toArray, List.set_cons_zero, List.set_cons_succ]
                          refine wpAnyH_take (i := 23) (v := ?_) rfl (by as_aux_lemma => kernel_rfl) (by as_aux_lemma => kernel_rfl) (by as_aux_lemma => kernel_rfl) (fun _ _ _ h => h) (Or.inl ⟨by rfl, ?_⟩) hHeld ?_
                          rotate_left
                          · intro w' hSw; have cu := (hSw.cell (p := ⟨bl, ol + l.length * 2, none⟩) LBL.out).trans N00.out; have cv := (hSw.cell (p := ⟨bl, ol + l.length * 2 + 1, none⟩) LBL.out).trans N01.out; have hli := HLI.out; go_simp; try with_reducible rfl
                          simp only [List.getElem_toArray, List.getElem_cons_succ, List.getElem_cons_zero, Act.put, List.setIfInBounds_toArray, List.set_cons_zero, List.set_cons_succ]
                          refine wpAnyH_ready (rs := [24]) (by as_aux_lemma => kernel_rfl) (by simp) ?_
                          refine AllReadyH.cons rfl (fun K hK => ?_) AllReadyH.nil
                          go_simp
                          refine (same6 _ _ (G, t) (G, t) _ ⟨_, rfl, (TF0.out.below Q0.out).more Q0.out.size⟩ ⟨_, rfl, (TN0.out.below Q0.out).more Q0.out.size⟩).mono ?_
                          rintro e qa ⟨rfl, bA⟩
                          rw [decide_eq_true (rfl : (G, t) = (G, t))]
                          have QA := Lib.hid (Q0.out.trans (bA.mono Q0.out.size))
                          clear bA
                          try go_wp2_with fail
                          refine hK.out _ _ ?_ (fun hHeld => ?_)
                          · exact QA.out
                          clear hK K
                          try simp only [List.getElem_toArray, List.getElem_cons_succ, List.getElem_cons_zero, Act.put, List.setIfInBounds_toArray, List.set_cons_zero, List.set_cons_succ]
                          refine wpAnyH_take (i := 25) (v := ?_) rfl (by as_aux_lemma => kernel_rfl) (by as_aux_lemma => kernel_rfl) (by as_aux_lemma => kernel_rfl) (fun _ _ _ h => h) (Or.inl ⟨by rfl, ?_⟩) hHeld ?_
                          rotate_left
                          · intro w' hSw; go_simp; try with_reducible rfl
                          simp only [List.getElem_toArray, List.getElem_cons_succ, List.getElem_cons_zero, Act.put, List.setIfInBounds_toArray, List.set_cons_zero, List.set_cons_succ]
                          refine wpAnyH_take (i := 26) (v := ?_) rfl (by as_aux_lemma => kernel_rfl) (by as_aux_lemma => kernel_rfl) (by as_aux_lemma => kernel_rfl) (fun _ _ _ h => h) (Or.inl ⟨by rfl, ?_⟩) hHeld ?_
                          rotate_left
                          · intro w' hSw; go_simp; try with_reducible rfl
                          simp only [List.getElem_toArray, List.getElem_cons_succ, List.getElem_cons_zero, Act.put, List.setIfInBounds_toArray, List.set_cons_zero, List.set_cons_succ]
                          refine wpAnyH_take (i := 27) (v := ?_) rfl (by as_aux_lemma => kernel_rfl) (by as_aux_lemma => kernel_rfl) (by as_aux_lemma => kernel_rfl) (fun _ _ _ h => h) (Or.inl ⟨by rfl, ?_⟩) hHeld ?_
                          rotate_left
                          · intro w' hSw; go_simp; try with_reducible rfl
                          simp only [List.getElem_toArray, List.getElem_cons_succ, List.getElem_cons_zero, Act.put, List.setIfInBounds_toArray, List.set_cons_zero, List.set_cons_succ]
                          refine wpAnyH_take (i := 28) (v := ?_) rfl (by as_aux_lemma => kernel_rfl) (by as_aux_lemma => kernel_rfl) (by as_aux_lemma => kernel_rfl) (fun _ _ _ h => h) (Or.inl ⟨by rfl, ?_⟩) hHeld ?_
                          rotate_left
                          · intro w' hSw; go_simp; try with_reducible rfl
                          simp only [List.getElem_toArray, List.getElem_cons_succ, List.getElem_cons_zero, Act.put, List.setIfInBounds_toArray, List.set_cons_zero, List.set_cons_succ]
                          refine wpAnyH_take (i := 29) (v := ?_) rfl (by as_aux_lemma => kernel_rfl) (by as_aux_lemma => kernel_rfl) (by as_aux_lemma => kernel_rfl) (fun _ _ _ h => h) (Or.inl ⟨by rfl, ?_⟩) hHeld ?_
                          rotate_left
                          · intro w' hSw; go_simp; try with_reducible rfl
                          simp only [List.getElem_toArray, List.getElem_cons_succ, List.getElem_cons_zero, Act.put, List.setIfInBounds_toArray, List.set_cons_zero, List.set_cons_succ]
                          refine wpAnyH_take (i := 30) (v := ?_) rfl (by as_aux_lemma => kernel_rfl) (by as_aux_lemma => kernel_rfl) (by as_aux_lemma => kernel_rfl) (fun _ _ _ h => h) (Or.inl ⟨by rfl, ?_⟩) hHeld ?_
                          rotate_left
                          · intro w' hSw; go_simp; try with_reducible rfl
                          simp only [List.getElem_toArray, List.getElem_cons_succ, List.getElem_cons_zero, Act.put, List.setIfInBounds_toArray, List.set_cons_zero, List.set_cons_succ]
                          refine wpAnyH_take (i := 31) (v := ?_) rfl (by as_aux_lemma => kernel_rfl) (by as_aux_lemma => kernel_rfl) (by as_aux_lemma => kernel_rfl) (fun _ _ _ h => h) (Or.inl ⟨by rfl, ?_⟩) hHeld ?_
                          rotate_left
                          · intro w' hSw; go_simp; try with_reducible rfl
                          simp only [List.getElem_toArray, List.getElem_cons_succ, List.getElem_cons_zero, Act.put, List.setIfInBounds_toArray, List.set_cons_zero, List.set_cons_succ]
                          refine wpAnyH_take (i := 32) (v := ?_) rfl (by as_aux_lemma => kernel_rfl) (by as_aux_lemma => kernel_rfl) (by as_aux_lemma => kernel_rfl) (fun _ _ _ h => h) (Or.inl ⟨by rfl, ?_⟩) hHeld ?_
                          rotate_left
                          · intro w' hSw; go_simp; try with_reducible rfl
                          simp only [List.getElem_toArray, List.getElem_cons_succ, List.getElem_cons_zero, Act.put, List.setIfInBounds_toArray, List.set_cons_zero, List.set_cons_succ]
                          refine wpAnyH_take (i := 33) (v := ?_) rfl (by as_aux_lemma => kernel_rfl) (by as_aux_lemma => kernel_rfl) (by as_aux_lemma => kernel_rfl) (fun _ _ _ h => h) (Or.inl ⟨by rfl, ?_⟩) hHeld ?_
                          rotate_left
                          · intro w' hSw; go_simp; try with_reducible rfl
                          simp only [List.getElem_toArray, List.getElem_cons_succ, List.getElem_cons_zero, Act.put, List.setIfInBounds_toArray, List.set_cons_zero, List.set_cons_succ]
                          refine wpAnyH_take (i := 34) (v := ?_) rfl (by as_aux_lemma => kernel_rfl) (by as_aux_lemma => kernel_rfl) (by as_aux_lemma => kernel_rfl) (fun _ _ _ h => h) (Or.inl ⟨by rfl, ?_⟩) hHeld ?_
                          rotate_left
                          · intro w' hSw; have cw : w'.cell? ⟨bf, of_ + 2 + 1, none⟩ = _ := (hSw.cell (p := ⟨bf, of_ + 3, none⟩) LBF.out).trans F11.out; have cu := (hSw.cell (p := ⟨bf, of_ + 2, none⟩) LBF.out).trans F10.out; have cv := (hSw.cell (p := ⟨bf, of_ + 3, none⟩) LBF.out).trans F11.out; go_simp; try with_reducible rfl
                          simp only [List.getElem_toArray, List.getElem_cons_succ, List.getElem_cons_zero, Act.put, List.setIfInBounds_toArray, List.set_cons_zero, List.set_cons_succ]
                          refine wpAnyH_take (i := 35) (v := ?_) rfl (by as_aux_lemma => kernel_rfl) (by as_aux_lemma => kernel_rfl) (by as_aux_lemma => kernel_rfl) (fun _ _ _ h => h) (Or.inl ⟨by rfl, ?_⟩) hHeld ?_
                          rotate_left
                          · intro w' hSw; go_simp; try with_reducible rfl
                          simp only [List.getElem_toArray, List.getElem_cons_succ, List.getElem_cons_zero, Act.put, List.setIfInBounds_toArray, List.set_cons_zero, List.set_cons_succ]
                          refine wpAnyH_take (i := 36) (v := ?_) rfl (by as_aux_lemma => kernel_rfl) (by as_aux_lemma => kernel_rfl) (by as_aux_lemma => kernel_rfl) (fun _ _ _ h => h) (Or.inl ⟨by rfl, ?_⟩) hHeld ?_
                          rotate_left
                          · intro w' hSw; go_simp; try with_reducible rfl
                          simp only [List.getElem_toArray, List.getElem_cons_succ, List.getElem_cons_zero, Act.put, List.setIfInBounds_toArray, List.set_cons_zero, List.set_cons_succ]
                          refine wpAnyH_take (i := 37) (v := ?_) rfl (by as_aux_lemma => kernel_rfl) (by as_aux_lemma => kernel_rfl) (by as_aux_lemma => kernel_rfl) (fun _ _ _ h => h) (Or.inl ⟨by rfl, ?_⟩) hHeld ?_
                          rotate_left
                          · intro w' hSw; go_simp; try with_reducible rfl
                          simp only [List.getElem_toArray, List.getElem_cons_succ, List.getElem_cons_zero, Act.put, List.setIfInBounds_toArray, List.set_cons_zero, List.set_cons_succ]
                          refine wpAnyH_take (i := 38) (v := ?_) rfl (by as_aux_lemma => kernel_rfl) (by as_aux_lemma => kernel_rfl) (by as_aux_lemma => kernel_rfl) (fun _ _ _ h => h) (Or.inl ⟨by rfl, ?_⟩) hHeld ?_
                          rotate_left
                          · intro w' hSw; have hli := HLJ.out; go_simp; try with_reducible rfl
                          simp only [List.getElem_toArray, List.getElem_cons_succ, List.getElem_cons_zero, Act.put, List.setIfInBounds_toArray, List.set_cons_zero, List.set_cons_succ]
                          refine wpAnyH_take (i := 39) (v := ?_) rfl (by as_aux_lemma => kernel_rfl) (by as_aux_lemma => kernel_rfl) (by as_aux_lemma => kernel_rfl) (fun _ _ _ h => h) (Or.inl ⟨by rfl, ?_⟩) hHeld ?_
                          rotate_left
                          · intro w' hSw; go_simp; try with_reducible rfl
                          simp only [List.getElem_toArray, List.getElem_cons_succ, List.getElem_cons_zero, Act.put, List.setIfInBounds_toArray, List.set_cons_zero, List.set_cons_succ]
                          refine wpAnyH_take (i := 40) (v := ?_) rfl (by as_aux_lemma => kernel_rfl) (by as_aux_lemma => kernel_rfl) (by as_aux_lemma => kernel_rfl) (fun _ _ _ h => h) (Or.inl ⟨by rfl, ?_⟩) hHeld ?_
                          rotate_left
                          · intro w' hSw; have cu := (hSw.cell (p := ⟨bl, ol + k * 2, none⟩) LBL.out).trans N10.out; have cv := (hSw.cell (p := ⟨bl, ol + k * 2 + 1, none⟩) LBL.out).trans N11.out; have hli := HLJ.out; go_simp; try with_reducible rfl
                          simp only [List.getElem_toArray, List.getElem_cons_succ, List.getElem_cons_zero, Act.put, List.setIfInBounds_toArray, List.set_cons_zero, List.set_cons_succ]
                          refine wpAnyH_ready (rs := [41]) (by as_aux_lemma => kernel_rfl) (by simp) ?_
                          refine AllReadyH.cons rfl (fun K hK => ?_) AllReadyH.nil
                          go_simp
                          refine (same6 _ _ y y _ ⟨_, rfl, (TF1.out.below QA.out).more QA.out.size⟩ ⟨_, rfl, (TN1.out.below QA.out).more QA.out.size⟩).mono ?_
                          rintro e qb ⟨rfl, bA⟩
                          rw [decide_eq_true (rfl : y = y)]
                          have QB := Lib.hid (QA.out.trans (bA.mono QA.out.size))
                          clear bA
                          try go_wp2_with fail
                          refine hK.out _ _ ?_ (fun hHeld => ?_)
                          · exact QB.out
                          clear hK K
                          try simp only [List.getElem_toArray, List.getElem_cons_succ, List.getElem_cons_zero, Act.put, List.setIfInBounds_toArray, List.set_cons_zero, List.set_cons_succ]
                          refine wpAnyH_take (i := 42) (v := ?_) rfl (by as_aux_lemma => kernel_rfl) (by as_aux_lemma => kernel_rfl) (by as_aux_lemma => kernel_rfl) (fun _ _ _ h => h) (Or.inl ⟨by rfl, ?_⟩) hHeld ?_
                          rotate_left
                          · intro w' hSw; go_simp; try with_reducible rfl
                          simp only [List.getElem_toArray, List.getElem_cons_succ, List.getElem_cons_zero, Act.put, List.setIfInBounds_toArray, List.set_cons_zero, List.set_cons_succ]
                          refine wpAnyH_take (i := 43) (v := ?_) rfl (by as_aux_lemma => kernel_rfl) (by as_aux_lemma => kernel_rfl) (by as_aux_lemma => kernel_rfl) (fun _ _ _ h => h) (Or.inl ⟨by rfl, ?_⟩) hHeld ?_
                          rotate_left
                          · intro w' hSw; go_simp; try with_reducible rfl
                          simp only [List.getElem_toArray, List.getElem_cons_succ, List.getElem_cons_zero, Act.put, List.setIfInBounds_toArray, List.set_cons_zero, List.set_cons_succ]
                          refine wpAnyH_take (i := 44) (v := ?_) rfl (by as_aux_lemma => kernel_rfl) (by as_aux_lemma => kernel_rfl) (by as_aux_lemma => kernel_rfl) (fun _ _ _ h => h) (Or.inl ⟨by rfl, ?_⟩) hHeld ?_
                          rotate_left
                          · intro w' hSw; go_simp; try with_reducible rfl
                          simp only [List.getElem_toArray, List.getElem_cons_succ, List.getElem_cons_zero, Act.put, List.setIfInBounds_toArray, List.set_cons_zero, List.set_cons_succ]
                          refine wpAnyH_done (by as_aux_lemma => kernel_rfl) ?_ _
                          go_wp2_with fail
                          go_meet
                          exact ⟨rfl, QB.out⟩
                    case rest =>
                      obtain ⟨rfl, hbl⟩ := hcut
                      obtain ⟨w14, hw14⟩ : ∃ w14 : World, w14 = wc := ⟨_, rfl⟩
                      subst hw14
                      have tBW := BW.out.trans (hbl.mono BW.out.size)
                      have tXD := (hbl.block _ (heap_lt XD.out)).trans XD.out
                      have tRL := RL.out.below hbl
                      have tDS := DS.out.below hbl
                      have tXS := (hbl.block _ (heap_lt XS.out)).trans XS.out
                      clear BW XD RL DS XS
                      have BW := Lib.hid tBW
                      have XD := Lib.hid tXD
                      have RL := Lib.hid tRL
                      have DS := Lib.hid tDS
                      have XS := Lib.hid tXS
                      clear tBW tXD tRL tDS tXS hbl
                      obtain ⟨k0, k1⟩ := cell2_of XS.out
                      obtain ⟨m0, m1⟩ := cell2_of XD.out
                      have f0 := frozen2_of XD.out 0
                      have f1 := frozen2_of XD.out 1
                      go_wp2_with fail
                      go_roundw
                      case measure => simp [intOf]; omega
                      case rel => exact ⟨S2, l ++ [(G, t)], A15, n15, c15, A16, n16, c16, by rw [List.length_append, List.length_singleton]; omega, by first | go_num | simp, HST.out, heap_set2 XD.out _ _, disk_turned DS.out XD.out (by decide) (by decide) (by decide) (grown_set2 w14 p0 _ _), RL.out.other XD.out (by decide) (grown_set2 w14 p0 _ _), below_set2 BW.out LP.out _ _⟩
    · have hk' : ¬ (l.length : Int) < ts.length := by omega
      go_wp2_with fail
      go_ret
      exact ⟨rfl, BW.out⟩
end Go.Proofs.Ytdjoflhcagfmiaa
