/-
  The records that are whole on a disk, as the program finds them.
  Conditions: none.
-/
import Derived.Test.YtdjoflhcagfmiaaSlotWhole
import Derived.Test.YtdjoflhcagfmiaaSlotSeen
import Derived.Test.YtdjoflhcagfmiaaSlotSort
set_option linter.unusedVariables false
set_option linter.unusedSimpArgs false
set_option maxRecDepth 100000
namespace Go.Proofs.Ytdjoflhcagfmiaa
open Go.RowKit

/-- A record: its generation, and its text. -/
abbrev Rc := Nat × Bs
def rcells (rs : List Rc) (us : List Value) : List Value := (List.zipWith (fun (r : Rc) u => [Value.int .u32 (r.1 : Int), u]) rs us).flatten
theorem rcells_snoc : ∀ (rs : List Rc) (us : List Value) (r : Rc) (u : Value), us.length = rs.length → rcells (rs ++ [r]) (us ++ [u]) = rcells rs us ++ [.int .u32 (r.1 : Int), u]
  | [], [], r, u, _ => rfl
  | r0 :: rs, u0 :: us, r, u, h => by
    have := rcells_snoc rs us r u (by simpa using h)
    show Value.int .u32 (r0.1 : Int) :: u0 :: rcells (rs ++ [r]) (us ++ [u]) = Value.int .u32 (r0.1 : Int) :: u0 :: (rcells rs us ++ _)
    rw [this]
/-- A list of records in memory of the call's own. -/
def RecsAt (W : World) (lo : Nat) (v : Value) (rs : List Rc) : Prop :=
  ∃ us : List Value, W.ownsRow lo 36 2 v rs.length (rcells rs us) ∧ us.length = rs.length ∧ rs.length ≤ maxLen ∧ ∀ (j : Nat) (u : Value) (r : Rc), us[j]? = some u → rs[j]? = some r → OwnTxt W lo u r.2
theorem RecsAt.nil_ (W : World) (lo : Nat) : RecsAt W lo (.slice none 0 0) [] := ⟨[], World.ownsRow_nil _ _ _ _, rfl, by simp, fun j u r h => by simp at h⟩
theorem RecsAt.below {W W' : World} {lo : Nat} {v : Value} {rs : List Rc} (h : RecsAt W lo v rs) (hb : Below W.heap.size W W') : RecsAt W' lo v rs := by
  obtain ⟨us, ho, hl, hm, ht⟩ := h
  exact ⟨us, owns_below ho hb, hl, hm, fun j u r h1 h2 => (ht j u r h1 h2).below hb⟩
theorem RecsAt.mono {W : World} {lo lo' : Nat} {v : Value} {rs : List Rc} (h : RecsAt W lo v rs) (hl : lo' ≤ lo) : RecsAt W lo' v rs := by
  obtain ⟨us, ho, hle, hm, ht⟩ := h
  exact ⟨us, owns_mono ho hl, hle, hm, fun j u r h1 h2 => (ht j u r h1 h2).mono hl⟩
theorem OwnTxt.grown {W W' : World} {lo b : Nat} {u : Value} {t : Bs} {e : TypeId} {c : Array Value} {fr : Nat × Nat} (h : OwnTxt W lo u t) (hne : 5 ≠ e) (hb : W.heap[b]? = some (.cells c e fr)) (hg : W.grownBy W' (some b)) : OwnTxt W' lo u t := by
  obtain ⟨b0, off, cap, cs, rfl, h0, hh, h1, h2, h3⟩ := h
  refine ⟨b0, off, cap, cs, rfl, h0, (hg.block b0 (Array.getElem?_eq_some_iff.1 hh).1 (fun e1 => ?_)).trans hh, h1, h2, h3⟩
  obtain rfl : b0 = b := by simpa using e1
  rw [hh] at hb
  cases hb
  exact hne rfl
theorem OwnTxt.kept {W W' : World} {lo base n : Nat} {u v : Value} {t : Bs} {ys : List Value} (h : OwnTxt W lo u t) (ho : W.ownsRow base 36 2 v n ys) (hg : W.grownBy W' v.ownBlock) : OwnTxt W' lo u t := by
  cases hv : v.ownBlock with
  | none =>
    rw [hv] at hg
    obtain ⟨b0, off, cap, cs, rfl, h0, hh, h1, h2, h3⟩ := h
    exact ⟨b0, off, cap, cs, rfl, h0, (hg.block b0 (Array.getElem?_eq_some_iff.1 hh).1 (by simp)).trans hh, h1, h2, h3⟩
  | some g =>
    obtain ⟨c, h1, _⟩ := owns_block ho hv
    rw [hv] at hg
    exact h.grown (by decide) h1 hg
theorem RecsAt.snoc {W w1 w5 : World} {lo : Nat} {v v5 u : Value} {rs : List Rc} {r : Rc} {us : List Value} {o : Obj} (ho : W.ownsRow lo 36 2 v rs.length (rcells rs us)) (hl : us.length = rs.length) (hm : rs.length + 1 ≤ maxLen)
    (ht : ∀ (j : Nat) (u : Value) (r : Rc), us[j]? = some u → rs[j]? = some r → OwnTxt W lo u r.2) (hb : Below W.heap.size W w1) (hu : OwnTxt w1 lo u r.2)
    (hown : w5.ownsRow lo 36 2 v5 (rs.length + 1) (rcells rs us ++ [.int .u32 (r.1 : Int), u])) (hgr : (w1.alloc o).grownBy w5 v.ownBlock) : RecsAt w5 lo v5 (rs ++ [r]) := by
  have h1 : (w1.alloc o).ownsRow lo 36 2 v rs.length (rcells rs us) := (owns_below ho hb).alloc o
  refine ⟨us ++ [u], by rw [List.length_append, List.length_singleton, rcells_snoc _ _ _ _ hl]; exact hown, by simp [hl], by simpa using hm, fun j x y hj hy => ?_⟩
  rcases Nat.lt_or_ge j rs.length with h | h
  · rw [List.getElem?_append_left (by omega)] at hj
    rw [List.getElem?_append_left h] at hy
    exact (((ht j x y hj hy).below hb).below (below_new _ _)).kept h1 hgr
  · have hj1 : j = rs.length := by
      have := (List.getElem?_eq_some_iff.1 hy).1
      rw [List.length_append, List.length_singleton] at this
      omega
    subst hj1
    rw [List.getElem?_append_right (by omega), hl, Nat.sub_self] at hj
    rw [List.getElem?_append_right (by omega), Nat.sub_self] at hy
    cases hj
    cases hy
    exact (hu.below (below_new _ _)).kept h1 hgr

/-- Of two records the greater generation first. -/
def sortL : List Rc → List Rc
  | [x, y] => if x.1 < y.1 then [y, x] else [x, y]
  | l => l
def halfL (V : List Bs) (k : Nat) : List Rc := (wholeR ((V.drop k).take 16) k).toList
def findL (V : List Bs) : List Rc := sortL (halfL V 0 ++ halfL V 16)
theorem half_step (V : List Bs) {i : Nat} (hi : i < 2) : ((if 0 < i + 1 then halfL V 0 else []) ++ (if 1 < i + 1 then halfL V 16 else [])) = ((if 0 < i then halfL V 0 else []) ++ (if 1 < i then halfL V 16 else [])) ++ halfL V (16 * i) := by
  have h : i = 0 ∨ i = 1 := by omega
  rcases h with rfl | rfl
  · simp
  · simp
def findR (ss : List Bs) (ws : List Wr) : List Rc := if mayB ss ws then findL (comes ss ws (all128 ws)) else []
theorem halfL_le (V : List Bs) (k : Nat) : (halfL V k).length ≤ 1 := by
  rw [halfL]
  cases wholeR ((V.drop k).take 16) k <;> simp
theorem RecsAt.slice {W : World} {lo : Nat} {v : Value} {rs : List Rc} (h : RecsAt W lo v rs) : ∃ A c, v = .slice A rs.length c := by
  obtain ⟨us, ho, _⟩ := h
  exact own_sliceN ho
theorem OwnTxt.slice {W : World} {lo : Nat} {u : Value} {t : Bs} (h : OwnTxt W lo u t) : ∃ A n c, u = .slice A n c := by
  obtain ⟨b, off, cap, cs, rfl, _⟩ := h
  exact ⟨_, _, _, rfl⟩

theorem two_of {α : Type} {l : List α} (h : l.length = 2) : ∃ x y, l = [x, y] := by
  match l, h with
  | [x, y], _ => exact ⟨x, y, rfl⟩
/-- The sort, at a list of at most two records. -/
theorem sort_any (v : Value) (rs : List Rc) (lo : Nat) (w : World) (h : RecsAt w lo v rs) (hl : rs.length ≤ 2) :
    Calls Try.prog 33 #[v, .func (.func 34) #[] #[]] w fun e w' => (∃ x, e = .returned x) ∧ RecsAt w' lo v (sortL rs) ∧ w.grownBy w' v.ownBlock := by
  by_cases h1 : rs.length ≤ 1
  · obtain ⟨A, c, rfl⟩ := h.slice
    refine (sort1_any A rs.length c h1 w).mono ?_
    rintro e w' ⟨⟨x, rfl⟩, rfl⟩
    refine ⟨⟨x, rfl⟩, ?_, World.grownBy.refl _ _⟩
    match rs, h1 with
    | [], _ => exact h
    | [r], _ => exact h
  · obtain ⟨r0, r1, rfl⟩ := two_of (show rs.length = 2 by omega)
    obtain ⟨us, ho, hu, hm, ht⟩ := h
    obtain ⟨u0, u1, rfl⟩ := two_of (show us.length = 2 from hu)
    have t0 := ht 0 u0 r0 rfl rfl
    have t1 := ht 1 u1 r1 rfl rfl
    obtain ⟨A0, n0, c0, rfl⟩ := t0.slice
    obtain ⟨A1, n1, c1, rfl⟩ := t1.slice
    obtain ⟨b, cap, rest, rfl, hlo, hb, hcap, hmx, hsz⟩ := row4_of (show w.ownsRow lo 36 2 v 2 [.int .u32 (r0.1 : Int), .slice A0 n0 c0, .int .u32 (r1.1 : Int), .slice A1 n1 c1] from ho)
    refine (sort2_any b cap r0.1 r1.1 n0 n1 c0 c1 A0 A1 rest w hcap hb).mono ?_
    rintro e w' ⟨⟨x, rfl⟩, hg, hh⟩
    refine ⟨⟨x, rfl⟩, ?_, hg⟩
    have k0 := t0.grown (by decide) hb hg
    have k1 := t1.grown (by decide) hb hg
    unfold sortC at hh
    by_cases hlt : r0.1 < r1.1
    · rw [if_pos hlt] at hh
      rw [sortL, if_pos hlt]
      refine ⟨[.slice A1 n1 c1, .slice A0 n0 c0], row4_to hlo hh hcap hmx hsz, rfl, hm, fun j u r hj hr => ?_⟩
      match j, hj, hr with
      | 0, hj, hr => cases hj; cases hr; exact k1
      | 1, hj, hr => cases hj; cases hr; exact k0
    · rw [if_neg hlt] at hh
      rw [sortL, if_neg hlt]
      refine ⟨[.slice A0 n0 c0, .slice A1 n1 c1], row4_to hlo hh hcap hmx hsz, rfl, hm, fun j u r hj hr => ?_⟩
      match j, hj, hr with
      | 0, hj, hr => cases hj; cases hr; exact k0
      | 1, hj, hr => cases hj; cases hr; exact k1

set_option maxHeartbeats 4000000 in
theorem sfind_any (d : Value) (ss : List Bs) (ws : List Wr) (w : World) (h : DiskIn w w.heap.size d ss ws) :
    Calls Try.prog 9 #[d] w fun e w' => ∃ v, e = .returned (.tuple #[v, .int .i64 (syncE ss ws)]) ∧ RecsAt w' w.heap.size v (findR ss ws) ∧ Below w.heap.size w w' := by
  obtain ⟨v1, v2, rfl, h1, h2⟩ := id h
  have H := Lib.hid h
  obtain ⟨i0, hi, hz0, hz1, hz2⟩ := info_parts infoRec
  have I0 := Lib.hid hi
  have I1 := Lib.hid hz0
  have I2 := Lib.hid hz1
  have I3 := Lib.hid hz2
  have qb := below_new w (.cells #[v1, v2] 29)
  have q0 := heap_alloc_self w (.cells #[v1, v2] 29)
  clear h1 h2 h hi hz0 hz1 hz2
  go_enter Try.func9, Try.ntmps9
  go_wp2_with fail
  generalize w.alloc (.cells #[v1, v2] 29) = q at q0 qb ⊢
  have QB := Lib.hid qb
  refine (sseen_any _ ss ws q ((H.out.below QB.out).more QB.out.size)).mono ?_
  rintro e w1 ⟨y1, rfl, hs, b1⟩
  obtain ⟨A2, c2, rfl⟩ := secs_slice hs
  have B1 := Lib.hid (QB.out.trans (b1.mono QB.out.size))
  have S1 := Lib.hid hs.in_
  clear hs b1 q0 qb
  cases hm : mayB ss ws with
  | false =>
    have hE : syncE ss ws = 8 := by rw [syncE, hm]; rfl
    have hF : findR ss ws = [] := by rw [findR, hm]; rfl
    rw [hE]
    have HE := Lib.hid hE
    have HF := Lib.hid hF
    clear hm hE hF
    go_wp2_with fail
    refine bodyPost_ret (results_tmp2 rfl _ _ _) rfl ?_
    exact ⟨_, by rw [HE.out]; rfl, by rw [HF.out]; exact RecsAt.nil_ _ _, B1.out⟩
  | true =>
    have hM := mayB_iff.1 hm
    have hE : syncE ss ws = 0 := by rw [syncE, hm]; rfl
    have hS : syncS ss ws = comes ss ws (all128 ws) := by rw [syncS, hm]; rfl
    have hF : findR ss ws = findL (comes ss ws (all128 ws)) := by rw [findR, hm]; rfl
    have hC := may_comes hM (all128 ws)
    obtain ⟨V, hV⟩ : ∃ V, V = comes ss ws (all128 ws) := ⟨_, rfl⟩
    rw [← hV] at hF hC hS
    rw [hE]
    rw [hS] at S1 ⊢
    rw [hC.n] at S1 ⊢
    have HE := Lib.hid hE
    have HF := Lib.hid hF
    have HC := Lib.hid hC
    clear hm hM hE hS hF hV hC
    go_wp2_with fail
    go_loopw [6, 7] (fun s6 s7 wr => ∃ (i : Nat) (l : List Rc), i ≤ 2 ∧ s7 = .int .i64 ((16 * i : Nat) : Int) ∧ l.length ≤ i ∧ l = ((if 0 < i then halfL V 0 else []) ++ (if 1 < i then halfL V 16 else [])) ∧ RecsAt wr w1.heap.size s6 l ∧ Below w1.heap.size w1 wr) (fun _ s7 _ => 32 - (intOf s7).toNat)
    case atStart => exact ⟨0, [], by omega, rfl, Nat.le_refl _, rfl, RecsAt.nil_ _ _, Below.refl _ _⟩
    case round =>
      obtain ⟨i, l, hi, rfl, hl, hle, hr, hb⟩ := hrel
      obtain ⟨A6, c6, rfl⟩ := hr.slice
      have HR := Lib.hid hr
      have HB := Lib.hid hb
      have HLE := Lib.hid hle
      clear hr hb hle
      by_cases hlt : i < 2
      · have hlt' : ((16 * i : Nat) : Int) < 32 := by omega
        go_wp2_with fail
        refine (swhole_any _ V (16 * i) (by omega) wr ((S1.out.below HB.out).more HB.out.size) HC.out.n HC.out.s).mono ?_
        rintro e w2 ⟨hsaid, b2⟩
        have hstep := half_step V hlt
        cases hT : wholeR ((V.drop (16 * i)).take 16) (16 * i) with
        | none =>
          rw [hT] at hsaid
          obtain rfl : e = _ := hsaid
          have hn : halfL V (16 * i) = [] := by rw [halfL, hT]; rfl
          rw [hn, List.append_nil, ← HLE.out] at hstep
          have HST := Lib.hid hstep
          have B2 := Lib.hid (HB.out.trans (b2.mono HB.out.size))
          have R2 := Lib.hid (HR.out.below b2)
          clear hT hn hstep b2
          go_wp2_with fail
          go_roundw
          case measure => simp [intOf]; omega
          case rel => exact ⟨i + 1, l, by omega, by go_num, by omega, HST.out.symm, R2.out.below (below_new _ _), B2.out.alloc B2.out.size _⟩
        | some r =>
          obtain ⟨g, t⟩ := r
          rw [hT] at hsaid
          obtain ⟨u, rfl, ho⟩ := hsaid
          have hn : halfL V (16 * i) = [(g, t)] := by rw [halfL, hT]; rfl
          rw [hn, ← HLE.out] at hstep
          have HST := Lib.hid hstep
          have B2 := Lib.hid (HB.out.trans (b2.mono HB.out.size))
          have LB := Lib.hid HB.out.size
          have OT := Lib.hid (ho.mono HB.out.size)
          have BB := Lib.hid b2
          obtain ⟨A8, n8, c8, rfl⟩ := ho.slice
          clear hT hn hstep ho
          have hz := heap_alloc_self w2 (.cells #[.int .u32 (g : Int), .slice A8 n8 c8] 36)
          have hzb := below_new w2 (.cells #[.int .u32 (g : Int), .slice A8 n8 c8] 36)
          have hc8 := heap_alloc_self (w2.alloc (.cells #[.int .u32 (g : Int), .slice A8 n8 c8] 36)) (.cells #[.int .u32 (g : Int), .slice A8 n8 c8] 36)
          rw [heap_alloc_size] at hc8
          have HC8 := Lib.hid hc8
          clear hc8
          have R3 := HR.out
          obtain ⟨us, h1, h2, h3, h4⟩ := R3
          have U1 := Lib.hid h1
          have U2 := Lib.hid h2
          have U4 := Lib.hid h4
          clear h1 h2 h3 h4 b2
          go_wp2_with ((with_reducible show wpList _ _ _ (⟨some 32, _, _, _, _, _⟩ :: _) _ _); refine wpList_append_any rfl (.tmp 29) (.tmp 31) _ rfl Try.underlying22 I0.out I1.out rfl I2.out (by decide) I3.out (by decide) rfl (owns_below (owns_below U1.out BB.out) ((below_new w2 _).alloc (by simp) _)) (m := 1) rfl (news := [.int .u32 (g : Int), .slice A8 n8 c8]) rfl (fun j u hj => (cell_of_row _ _ j _ _ _ HC8.out).trans (by simpa using hj)) (by simp [Value.oneCell']) (by omega) (by have := LB.out; have := BB.out.size; simp; omega) ?_; intro v4 w4 hown4 hgrow4; obtain ⟨A4, c4, rfl⟩ := own_sliceN hown4)
          have hs := RecsAt.snoc (rs := l) (r := (g, t)) U1.out U2.out (by unfold maxLen; omega) U4.out (BB.out.alloc BB.out.size _) (OT.out.below (below_new _ _)) hown4 hgrow4
          have RS := Lib.hid hs
          have BS : Hid (Below w1.heap.size w1 w4) := Lib.hid (((B2.out.alloc B2.out.size _).alloc (by have := B2.out.size; simp; omega) _).grown hgrow4 (by have := B2.out.size; simp; omega) (fun k hk => own_ge U1.out k hk))
          clear hs hown4 hgrow4 hz hzb
          go_roundw
          case measure => simp [intOf]; omega
          case rel => exact ⟨i + 1, l ++ [(g, t)], by omega, by go_num, by simp; omega, HST.out.symm, RS.out, BS.out⟩
      · obtain rfl : i = 2 := by omega
        have hlt' : ¬ ((16 * 2 : Nat) : Int) < 32 := by omega
        go_wp2_with fail
        refine (sort_any _ l w1.heap.size wr HR.out hl).mono ?_
        rintro e w2 ⟨⟨x, rfl⟩, hr2, hg2⟩
        have R2 := Lib.hid hr2
        have B2 : Hid (Below w1.heap.size w1 w2) := Lib.hid (HB.out.grown hg2 HB.out.size (fun k hk => by
          obtain ⟨us, ho, _⟩ := HR.out
          exact own_ge ho k hk))
        clear hr2 hg2
        go_wp2_with fail
        refine bodyPost_ret (results_tmp2 rfl _ _ _) rfl ?_
        refine ⟨_, by rw [HE.out]; rfl, ?_, B1.out.trans (B2.out.mono B1.out.size)⟩
        have he : findR ss ws = sortL l := by rw [HF.out, findL, HLE.out]; rfl
        rw [he]
        exact R2.out.mono B1.out.size
end Go.Proofs.Ytdjoflhcagfmiaa
