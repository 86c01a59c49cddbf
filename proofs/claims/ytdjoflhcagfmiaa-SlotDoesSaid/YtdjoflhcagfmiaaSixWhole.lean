/-
  The document's own function whole: the record that is whole in a slot.
  Conditions: a disk that may be; the slot's first sector is 0 or 16.
-/
import Derived.Test.YtdjoflhcagfmiaaSixWholeM
import Derived.Test.YtdjoflhcagfmiaaSixSecs
import Derived.Test.YtdjoflhcagfmiaaSixPut
import Derived.StillTailTactics
import Derived.Deep.CutRange
set_option linter.unusedVariables false
set_option linter.unusedSimpArgs false
set_option maxRecDepth 100000
namespace Go.Proofs.Ytdjoflhcagfmiaa
open Go.RowKit
theorem Txt.sub0 {W : World} {B n b o cap k L : Nat} {xs : Bs} (h : Txt W B (.slice (some ⟨b, o, none⟩) n cap) xs) (hn : n = xs.length) (hk : k + L ≤ n) :
    Txt W B (.slice (some ⟨b, o + k, none⟩) L (cap - k)) ((xs.drop k).take L) := by
  rcases Nat.eq_zero_or_pos L with rfl | hL
  · obtain ⟨A, cap', e, h1, h2, _, _⟩ := h
    cases e
    rw [List.take_zero]
    exact ⟨_, _, rfl, Nat.zero_le _, Nat.le_trans (Nat.sub_le _ _) h2, (fun e => by cases e), fun e => absurd e (by simp)⟩
  · obtain ⟨b', o', e, _, hs⟩ := h.sub' hn hL hk
    cases e
    exact hs
set_option maxHeartbeats 16000000 in
theorem rwhole_any (d : Value) (ss : List Bs) (ws : List Wr) (k : Nat) (hk : k = 0 ∨ k = 16) (hm : May ss ws) (w : World) (h : DiskIn w w.heap.size d ss ws) :
    Calls Try.prog 67 #[d, .int .i64 (k : Int)] w fun e w' => RefSaid w' (wholeR (slotS (viewL ss ws) k) k) e ∧ Below w.heap.size w w' := by
  obtain ⟨v1, v2, rfl, h1, h2⟩ := id h
  obtain ⟨i0, hi, hz0, hz1, hz2⟩ := info_parts infoByte
  have J0 := Lib.hid hi
  have J1 := Lib.hid hz0
  have J2 := Lib.hid hz1
  have J3 := Lib.hid hz2
  clear hi hz0 hz1 hz2
  have H := Lib.hid h
  have HM := Lib.hid hm
  obtain ⟨A1, c1, rfl, -, -, -, -⟩ := h1
  obtain ⟨A2, c2, rfl, -, -, -, -⟩ := h2
  have hq := two_boxes w (.cells #[.slice A1 ss.length c1, .slice A2 ws.length c2] 29) (.cells #[.int .u32 0, .slice none 0 0] 36)
  have hqs : ((w.alloc (.cells #[.slice A1 ss.length c1, .slice A2 ws.length c2] 29)).alloc (.cells #[.int .u32 0, .slice none 0 0] 36)).heap.size = w.heap.size + 2 := by simp
  have hC := viewL_may hm
  obtain ⟨V, hV⟩ : ∃ V, V = viewL ss ws := ⟨_, rfl⟩
  rw [← hV] at hC ⊢
  have hk16 : k ≤ 16 := by omega
  obtain ⟨S, hS0⟩ : ∃ S, S = slotS V k := ⟨_, rfl⟩
  have hSl : S.length = 16 := by rw [hS0]; exact slotS_length hC.n hk16
  have hS128 : ∀ s ∈ S, s.length = 128 := by rw [hS0]; exact slotS_128 hC.s
  have hSat : ∀ i, i < 16 → (viewL ss ws)[k + i]? = S[i]? := fun i hi => by rw [hS0, ← hV, slotS_at V k i hi]
  rw [← hS0]
  have SL := Lib.hid hSl
  have S128 := Lib.hid hS128
  have SAT := Lib.hid hSat
  obtain ⟨s0, hs0⟩ : ∃ s0, S[0]? = some s0 := ⟨_, List.getElem?_eq_getElem (by omega)⟩
  have h0128 : s0.length = 128 := hS128 s0 (List.mem_of_getElem? hs0)
  have hv0 : (viewL ss ws)[k]? = some s0 := by rw [← hs0, ← hSat 0 (by omega)]; rfl
  have hd0 : S.getD 0 [] = s0 := by rw [List.getD_eq_getElem?_getD, hs0]; rfl
  have H128 := Lib.hid h0128
  have HV0 := Lib.hid hv0
  have HD0 := Lib.hid hd0
  clear h hm hV hC hS0 hSl hS128 hSat hs0 h0128 hv0 hd0 hk
  go_enter Try.func67, Try.ntmps67
  go_wp2_with fail
  generalize (w.alloc (.cells #[.slice A1 ss.length c1, .slice A2 ws.length c2] 29)).alloc (.cells #[.int .u32 0, .slice none 0 0] 36) = q at hq hqs ⊢
  obtain ⟨q0, q1, qb⟩ := hq
  have QB := Lib.hid qb
  have QS := Lib.hid hqs
  refine (rseen_view _ ss ws q ((H.out.below QB.out).more QB.out.size) HM.out HV0.out).mono ?_
  rintro e wF ⟨y, rfl, ho, b1⟩
  have T0 := Lib.hid (own_txt ho rfl H128.out.symm (by rw [H128.out]; omega))
  obtain ⟨bf, of_, cf, rfl, hbf, hcell⟩ := txt_byte_ T0.out H128.out (j := 5) (by omega)
  have hcf : (128 : Int) ≤ cf := own_cap (n := 128) ho (by omega)
  obtain ⟨x, hx⟩ : ∃ x : UInt8, s0[5]? = some x := ⟨_, List.getElem?_eq_getElem (by rw [H128.out]; omega)⟩
  have hx1 : s0[5]'(by rw [H128.out]; omega) = x := by
    rw [List.getElem?_eq_getElem (by rw [H128.out]; omega)] at hx
    exact Option.some.inj hx
  rw [hx1] at hcell
  obtain ⟨n, hn⟩ : ∃ n, n = x.toNat := ⟨_, rfl⟩
  rw [← hn] at hcell
  have hn256 : n < 256 := by rw [hn]; exact UInt8.toNat_lt x
  have NOT : Hid ((∀ g t, Told S k g n t → False) → wholeR S k = none) := Lib.hid (fun hp => whole_none SL.out S128.out fun g t hw => hp g t (by rw [hn]; exact whole_told SL.out hw (by rw [HD0.out]; exact hx)))
  have X0 := Lib.hid ((b1.block _ (heap_lt q0)).trans q0)
  have X1 := Lib.hid ((b1.block _ (heap_lt q1)).trans q1)
  have BF := Lib.hid (QB.out.trans (b1.mono QB.out.size))
  have LF : Hid (w.heap.size + 2 ≤ wF.heap.size) := Lib.hid (by have := b1.size; have := QS.out; omega)
  clear ho b1 q0 q1 qb hqs hx hx1 hn hbf
  obtain ⟨r0, r1⟩ := cell2_of X1.out
  have f0 := frozen2_of X1.out 0
  have f1 := frozen2_of X1.out 1
  by_cases hn1 : n < 1
  · have hn1' : (n : Int) < 1 := by omega
    have HW := Lib.hid (NOT.out fun g t ht => by have := ht.cnt; have := cntR_pos t; omega)
    clear hn1
    go_wp2_with fail
    refine bodyPost_ret (results_2_tmp rfl _ _ (w.heap.size + 1) rfl (heap_set2 X1.out _ _) Try.underlying36 infoRec2 (.bool false) rfl) rfl ⟨by rw [HW.out]; rfl, below_set2 BF.out (Nat.le_succ _) _ _⟩
  by_cases hn2 : 16 < n
  · have hn1' : ¬ (n : Int) < 1 := by omega
    have hn2' : (16 : Int) < n := by omega
    have HW := Lib.hid (NOT.out fun g t ht => by have := ht.cnt; have := cntR_le ht.ok.2.2; omega)
    clear hn1 hn2
    go_wp2_with fail
    refine bodyPost_ret (results_2_tmp rfl _ _ (w.heap.size + 1) rfl (heap_set2 X1.out _ _) Try.underlying36 infoRec2 (.bool false) rfl) rfl ⟨by rw [HW.out]; rfl, below_set2 BF.out (Nat.le_succ _) _ _⟩
  have hn1' : ¬ (n : Int) < 1 := by omega
  have hn2' : ¬ (16 : Int) < n := by omega
  have hn16 : n ≤ 16 := by omega
  have hnp : 1 ≤ n := by omega
  clear hn1 hn2
  go_wp2_with fail
  clear hcell r0 r1 f0 f1
  go_loopw [8, 9] (fun s8 s9 wr => ∃ i : Nat, i ≤ n ∧ s9 = .int .i64 i ∧ wr.ownsRow wF.heap.size 5 1 s8 (118 * i) ((bodyS (S.take i)).map Go.Proofs.Ytdjoflhcagfmiaa.u8) ∧ Below wF.heap.size wF wr) (fun _ s9 _ => n - (intOf s9).toNat)
  case atStart => exact ⟨0, by omega, by go_num, World.ownsRow_nil _ _ _ _, Below.refl _ _⟩
  case round =>
    obtain ⟨i, hi, rfl, ho, hb⟩ := hrel
    obtain ⟨A8, c8, rfl⟩ := own_slice_ ho
    have HO := Lib.hid ho
    have HB := Lib.hid hb
    have BW := Lib.hid (BF.out.trans (hb.mono BF.out.size))
    have XR := Lib.hid ((hb.block _ (heap_lt X0.out)).trans X0.out)
    clear ho hb
    by_cases hlt : i < n
    · have hlt' : (i : Int) < n := by omega
      obtain ⟨sc, hsc⟩ : ∃ sc, S[i]? = some sc := ⟨_, List.getElem?_eq_getElem (by have := SL.out; omega)⟩
      have hs128 : sc.length = 128 := S128.out sc (List.mem_of_getElem? hsc)
      obtain ⟨a, ha⟩ : ∃ a, a = k + i := ⟨_, rfl⟩
      have hva : (viewL ss ws)[a]? = some sc := by rw [ha, SAT.out i (by omega), hsc]
      have hki : (k : Int) + i = a := by omega
      have ha32 : a < 32 := by omega
      have HVA := Lib.hid hva
      have HS128 := Lib.hid hs128
      have HSN := Lib.hid (bodyS_snoc hsc)
      obtain ⟨k0, k1⟩ := cell2_of XR.out
      clear hva hs128 hsc ha
      go_wp2_with fail
      refine (rseen_view _ ss ws wr ((H.out.below BW.out).more BW.out.size) HM.out HVA.out).mono ?_
      rintro e u ⟨y, rfl, hoy, bu⟩
      obtain ⟨A6, c6, rfl⟩ := own_slice_ hoy
      have hc6 : (128 : Int) ≤ c6 := own_cap (n := 128) hoy (by omega)
      have hc6a : (124 : Int) ≤ c6 := by omega
      have hc6b : ¬ c6 = 6 := by omega
      obtain ⟨b6, o6, hA, -, hsub⟩ := (own_txt hoy rfl HS128.out.symm (by rw [HS128.out]; omega)).sub' HS128.out.symm (k := 6) (L := 118) (by omega) (by omega)
      subst hA
      have hbl : ((sc.drop 6).take 118).length = 118 := by rw [List.length_take, List.length_drop, HS128.out]; omega
      have HBL := Lib.hid hbl
      have HSUB := Lib.hid hsub
      have OU := Lib.hid (owns_below HO.out bu)
      have BU := Lib.hid (HB.out.trans (bu.mono HB.out.size))
      clear hoy bu hbl hsub k0 k1
      go_wp2_with ((with_reducible show wpList _ _ _ (⟨some 42, _, _, _, _, _⟩ :: _) _ _); refine wpList_append_txt (o := ⟨some 42, _, _, _, _, _⟩) rfl (.tmp 39) (.tmp 41) _ rfl Try.underlying34 J0.out J1.out J2.out J3.out rfl OU.out rfl HSUB.out (by rw [HBL.out]; omega) BU.out.size ?_; intro v7 w7 hown7 hgrow7; rw [HBL.out, ← List.map_append, ← HSN.out, show 118 * i + 118 = 118 * (i + 1) from by omega] at hown7; obtain ⟨A7, c7, rfl⟩ := own_slice_ hown7; have O7 := Lib.hid hown7; have B7 := Lib.hid (BU.out.grown hgrow7 BU.out.size (own_ge OU.out)); clear hown7 hgrow7)
      go_roundw
      case measure => simp [intOf]; omega
      case rel => exact ⟨i + 1, by omega, by go_num, O7.out, B7.out⟩
    · obtain rfl : i = n := by omega
      have hlt' : ¬ (i : Int) < i := by omega
      obtain ⟨B, hB⟩ : ∃ B, B = bodyS (S.take i) := ⟨_, rfl⟩
      have hBl : B.length = 118 * i := by rw [hB]; exact bodyS_take_length S128.out (by rw [SL.out]; exact hn16)
      have NT : Hid ((∀ g t, Told S k g i t → sizeS B = t.length → textS B = t → False) → wholeR S k = none) := Lib.hid (fun hp => NOT.out fun g t ht => hp g t ht (by rw [hB]; exact ht.size) (by rw [hB]; exact ht.text))
      obtain ⟨bl, hbl⟩ : ∃ bl, bl = 118 * i := ⟨_, rfl⟩
      rw [← hB, ← hbl] at HO
      rw [← hbl] at hBl ⊢
      have hb1 : 118 ≤ bl := by omega
      have hb2 : bl ≤ 1888 := by omega
      have TB := Lib.hid (own_txt HO.out rfl hBl.symm (by rw [hBl]; omega))
      have hc8 : (bl : Int) ≤ c8 := own_cap HO.out (by omega)
      have hc8a : (6 : Int) ≤ c8 := by omega
      have hc8b : ¬ c8 = 4 := by omega
      have hc8c : ¬ c8 = 6 := by omega
      have hc8d : bl ≤ c8 := by omega
      obtain ⟨b8, o8, hA, -, hsub⟩ := TB.out.sub' hBl.symm (k := 4) (L := 2) (by omega) (by omega)
      subst hA
      have HSUB := Lib.hid hsub
      have HBLN := Lib.hid hbl
      have HBL := Lib.hid hBl
      clear hB hBl hsub hbl
      go_wp2_with fail
      refine (rget_any _ _ wr HSUB.out (by rw [List.length_take]; omega)).mono ?_
      rintro e wA ⟨rfl, hA⟩
      obtain rfl : wA = wr := hA
      obtain ⟨z, hz⟩ : ∃ z, z = sizeS B := ⟨_, rfl⟩
      rw [show leN ((B.drop 4).take 2) = z from hz.symm]
      obtain ⟨r0, r1⟩ := cell2_of (show wA.heap[w.heap.size + 1]? = _ from (HB.out.block _ (heap_lt X1.out)).trans X1.out)
      have X1R := Lib.hid ((HB.out.block _ (heap_lt X1.out)).trans X1.out)
      have f0 := frozen2_of X1R.out 0
      have f1 := frozen2_of X1R.out 1
      by_cases hzb : bl - 6 < z
      · have hzb' : (bl : Int) - 6 < z := by omega
        have HW := Lib.hid (NT.out fun g t ht h1 h2 => by have := ht.cnt; have := ht.ok.2.2; have := HBLN.out; rw [cntR] at *; omega)
        clear hzb hz
        go_wp2_with fail
        refine bodyPost_ret (results_2_tmp rfl _ _ (w.heap.size + 1) rfl (heap_set2 X1R.out _ _) Try.underlying36 infoRec2 (.bool false) rfl) rfl ⟨by rw [HW.out]; rfl, below_set2 BW.out (Nat.le_succ _) _ _⟩
      have hzb' : ¬ (bl : Int) - 6 < z := by omega
      have hz1 : z ≤ 1882 := by omega
      obtain ⟨t, ht⟩ : ∃ t, t = textS B := ⟨_, rfl⟩
      have htl : t.length = z := by rw [ht, hz]; exact textS_length B (by rw [HBL.out, ← hz]; omega)
      obtain ⟨g, hg⟩ : ∃ g, g = leN (s0.take 4) := ⟨_, rfl⟩
      have hg32 : g < 4294967296 := by rw [hg]; exact headG_lt s0
      have NG : Hid ((∀ (h : Told S k g i t), False) → wholeR S k = none) := Lib.hid (fun hp => NT.out fun g' t' h1 h2 h3 => hp (by
        have e1 : g' = g := by rw [h1.head, HD0.out, hg]; rfl
        have e2 : t' = t := by rw [ht, h3]
        subst e1 e2
        exact h1))
      have HPT : Hid (Txt wA wA.heap.size (.slice (some ⟨b8, o8 + 6, none⟩) z (c8 - 6)) t) := Lib.hid (by
        rw [ht, textS, ← hz]
        exact TB.out.sub0 HBL.out.symm (by omega))
      have TH4 : Hid (Txt wA wA.heap.size (.slice (some ⟨bf, of_, none⟩) 4 cf) (s0.take 4)) := Lib.hid (by
        have h := (T0.out.below HB.out).more HB.out.size
        rw [← H128.out] at h
        exact h.cut (by rw [H128.out]; omega))
      have HPL := Lib.hid htl
      have HG := Lib.hid hg
      have hwg : IntKind.u32.wrap (g : Int) = g := by simp [IntKind.wrap, IntKind.bits, IntKind.signed]; omega
      have hc6z : (6 : Int) + z ≤ c8 := by omega
      have hcf4 : (4 : Int) ≤ cf := by omega
      obtain ⟨m, hm⟩ : ∃ m, m = 6 + z := ⟨_, rfl⟩
      have hm1 : (6 : Int) + z = m := by omega
      have hmw : IntKind.i64.wrap (m : Int) = m := by simp [IntKind.wrap, IntKind.bits]; omega
      have hm2 : (6 : Int) ≤ m := by omega
      have hm3 : (m : Int) ≤ c8 := by omega
      have hm4 : (0 : Int) ≤ m := by omega
      have hm5 : m - 6 = z := by omega
      have hm6 : max (m : Int) 0 = m := by omega
      clear hm
      clear hzb hz ht htl hg
      go_wp2_with fail
      go_cut [12] from 52 to 61 (fun s12 wx => ∃ p A n c, s12 = .pointer (some ⟨p, 0, none⟩) ∧ wx.heap[p]? = some (.cells #[.int .u32 (g : Int), .slice A n c] 36 (0, 0)) ∧ wA.heap.size ≤ p ∧ n = z ∧ wx.ownsRow wA.heap.size 5 1 (.slice A n c) n (t.map Go.Proofs.Ytdjoflhcagfmiaa.u8) ∧ Below wA.heap.size wA wx)
      case first =>
        obtain ⟨wr, hwr⟩ : ∃ wr, wr = wA := ⟨_, rfl⟩
        subst hwr
        refine wp_region_held_drew (S := fun _ => True) (by kernel_rfl) trivial (fun hHeld => ?_)
        refine wpAnyH_take (i := 0) (v := ?_) rfl (by kernel_rfl) (by kernel_rfl) (by kernel_rfl) (fun _ _ _ h => h) (Or.inl ⟨by rfl, ?_⟩) hHeld ?_
        rotate_left
        · intro w' hSw; go_simp; try with_reducible rfl
        simp only [List.getElem_toArray, List.getElem_cons_succ, List.getElem_cons_zero, Act.put, List.setIfInBounds_toArray, List.set_cons_zero, List.set_cons_succ]
        refine wpAnyH_take (i := 1) (v := ?_) rfl (by kernel_rfl) (by kernel_rfl) (by kernel_rfl) (fun _ _ _ h => h) (Or.inl ⟨by rfl, ?_⟩) hHeld ?_
        rotate_left
        · intro w' hSw; go_simp; try with_reducible rfl
        simp only [List.getElem_toArray, List.getElem_cons_succ, List.getElem_cons_zero, Act.put, List.setIfInBounds_toArray, List.set_cons_zero, List.set_cons_succ]
        refine wpAnyH_take (i := 4) (v := ?_) rfl (by kernel_rfl) (by kernel_rfl) (by kernel_rfl) (fun _ _ _ h => h) (Or.inl ⟨by rfl, ?_⟩) hHeld ?_
        rotate_left
        · intro w' hSw; go_simp; try with_reducible rfl
        simp only [List.getElem_toArray, List.getElem_cons_succ, List.getElem_cons_zero, Act.put, List.setIfInBounds_toArray, List.set_cons_zero, List.set_cons_succ]
        refine wpAnyH_take (i := 5) (v := ?_) rfl (by kernel_rfl) (by kernel_rfl) (by kernel_rfl) (fun _ _ _ h => h) (Or.inl ⟨by rfl, ?_⟩) hHeld ?_
        rotate_left
        · intro w' hSw; go_simp; try with_reducible rfl
        simp only [List.getElem_toArray, List.getElem_cons_succ, List.getElem_cons_zero, Act.put, List.setIfInBounds_toArray, List.set_cons_zero, List.set_cons_succ]
        refine wpAnyH_take (i := 6) (v := ?_) rfl (by kernel_rfl) (by kernel_rfl) (by kernel_rfl) (fun _ _ _ h => h) (Or.inl ⟨by rfl, ?_⟩) hHeld ?_
        rotate_left
        · intro w' hSw; go_simp; try with_reducible rfl
        simp only [List.getElem_toArray, List.getElem_cons_succ, List.getElem_cons_zero, Act.put, List.setIfInBounds_toArray, List.set_cons_zero, List.set_cons_succ]
        refine wpAnyH_take (i := 7) (v := ?_) rfl (by kernel_rfl) (by kernel_rfl) (by kernel_rfl) (fun _ _ _ h => h) (Or.inl ⟨by rfl, ?_⟩) hHeld ?_
        rotate_left
        · intro w' hSw; go_simp; try with_reducible rfl
        simp only [List.getElem_toArray, List.getElem_cons_succ, List.getElem_cons_zero, Act.put, List.setIfInBounds_toArray, List.set_cons_zero, List.set_cons_succ]
        refine wpAnyH_ready (rs := [2, 10]) (by kernel_rfl) (by simp) ?_
        refine AllReadyH.cons rfl (fun K hK => ?_) (AllReadyH.cons rfl (fun K hK => ?_) AllReadyH.nil)
        · go_simp
          refine (rget_any _ _ wr.drew ((TH4.out.below (Below.refl wr.heap.size wr).drew).more ((Below.refl wr.heap.size wr).drew).size) (by rw [List.length_take]; omega)).mono ?_
          rintro e wA ⟨rfl, rfl⟩
          rw [← HG.out]
          try go_wp2_with fail
          refine hK.out _ _ ?_ (fun hHeld => ?_)
          · exact trivial
          clear hK K
          try simp only [List.getElem_toArray, List.getElem_cons_succ, List.getElem_cons_zero, Act.put, List.setIfInBounds_toArray, List.set_cons_zero, List.set_cons_succ]
          refine wpAnyH_take (i := 3) (v := ?_) rfl (by kernel_rfl) (by kernel_rfl) (by kernel_rfl) (fun _ _ _ h => h) (Or.inl ⟨by rfl, ?_⟩) hHeld ?_
          rotate_left
          · intro w' hSw; go_simp; try with_reducible rfl
          simp only [List.getElem_toArray, List.getElem_cons_succ, List.getElem_cons_zero, Act.put, List.setIfInBounds_toArray, List.set_cons_zero, List.set_cons_succ]
          refine wpAnyH_ready (rs := [8, 10]) (by kernel_rfl) (by simp) ?_
          refine AllReadyH.cons rfl (fun K hK => ?_) (AllReadyH.cons rfl (fun K hK => ?_) AllReadyH.nil)
          · rw [if_pos (by rfl)]
            refine wp_append_txt (.const (.slice none 0 0)) (.tmp 59) _ rfl Try.underlying34 J0.out J1.out J2.out J3.out rfl (World.ownsRow_nil wr.drew (wr.heap.size) _ _) rfl (HPT.out.below (Below.refl wr.heap.size wr).drew) (by rw [HPL.out]; omega) (Nat.le_refl _) ?_
            intro v9 w9 hown9 hgrow9
            rw [Nat.zero_add, HPL.out, List.nil_append] at hown9
            obtain ⟨A9, c9, rfl⟩ := own_slice_ hown9
            have O9 := Lib.hid hown9
            have G9 := Lib.hid hgrow9
            have B9 : Hid (Below wr.heap.size wr w9) := Lib.hid (((Below.refl wr.heap.size wr).drew).grown hgrow9 ((Below.refl wr.heap.size wr).drew).size (fun k hk => by cases hk))
            clear hown9 hgrow9
            try go_wp2_with fail
            refine hK.out _ _ ?_ (fun hHeld => ?_)
            · exact trivial
            clear hK K
            try simp only [List.getElem_toArray, List.getElem_cons_succ, List.getElem_cons_zero, Act.put, List.setIfInBounds_toArray, List.set_cons_zero, List.set_cons_succ]
            refine wpAnyH_take (i := 9) (v := ?_) rfl (by kernel_rfl) (by kernel_rfl) (by kernel_rfl) (fun _ _ _ h => h) (Or.inl ⟨by rfl, ?_⟩) hHeld ?_
            rotate_left
            · intro w' hSw; go_simp; try with_reducible rfl
            simp only [List.getElem_toArray, List.getElem_cons_succ, List.getElem_cons_zero, Act.put, List.setIfInBounds_toArray, List.set_cons_zero, List.set_cons_succ]
            refine wpAnyH_ready (rs := [10]) (by kernel_rfl) (by simp) ?_
            refine AllReadyH.cons rfl (fun K hK => ?_) AllReadyH.nil
            go_simp
            refine hK.out _ _ ?_ (fun hHeld => ?_)
            · exact trivial
            clear hK K
            try simp only [List.getElem_toArray, List.getElem_cons_succ, List.getElem_cons_zero, Act.put, List.setIfInBounds_toArray, List.set_cons_zero, List.set_cons_succ]
            refine wpAnyH_ready (rs := [11]) (by kernel_rfl) (by simp) ?_
            refine AllReadyH.cons rfl (fun K hK => ?_) AllReadyH.nil
            rw [if_pos (by rfl)]
            refine wp_store_2 36 _ _ rfl w9.heap.size rfl rfl (heap_alloc_self _ _) infoRec2 rfl rfl ?_
            rw [World.setRow_alloc_new]
            refine hK.out _ _ ?_ (fun hHeld => ?_)
            · exact trivial
            clear hK K
            try simp only [List.getElem_toArray, List.getElem_cons_succ, List.getElem_cons_zero, Act.put, List.setIfInBounds_toArray, List.set_cons_zero, List.set_cons_succ]
            refine wpAnyH_done (by kernel_rfl) ?_ _
            go_wp2_with fail
            go_meet
            exact ⟨_, A9, _, c9, rfl, heap_alloc_self _ _, B9.out.size, rfl, (owns_mono O9.out (Nat.le_refl _)).alloc _, B9.out.alloc B9.out.size _⟩
          · go_simp
            refine hK.out _ _ ?_ (fun hHeld => ?_)
            · exact trivial
            clear hK K
            try simp only [List.getElem_toArray, List.getElem_cons_succ, List.getElem_cons_zero, Act.put, List.setIfInBounds_toArray, List.set_cons_zero, List.set_cons_succ]
            refine wpAnyH_ready (rs := [8]) (by kernel_rfl) (by simp) ?_
            refine AllReadyH.cons rfl (fun K hK => ?_) AllReadyH.nil
            rw [if_pos (by rfl)]
            refine wp_append_txt (.const (.slice none 0 0)) (.tmp 59) _ rfl Try.underlying34 J0.out J1.out J2.out J3.out rfl (World.ownsRow_nil (wr.alloc (.cells #[.int .u32 0, .slice none 0 0] 36)).drew (wr.heap.size + 1) _ _) rfl (HPT.out.below (below_new wr (.cells #[.int .u32 0, .slice none 0 0] 36)).drew) (by rw [HPL.out]; omega) (by rw [show (wr.alloc (.cells #[.int .u32 0, .slice none 0 0] 36)).drew.heap.size = wr.heap.size + 1 from heap_alloc_size _ _]; exact Nat.le_refl _) ?_
            intro v9 w9 hown9 hgrow9
            rw [Nat.zero_add, HPL.out, List.nil_append] at hown9
            obtain ⟨A9, c9, rfl⟩ := own_slice_ hown9
            have O9 := Lib.hid hown9
            have G9 := Lib.hid hgrow9
            have B9 : Hid (Below wr.heap.size wr w9) := Lib.hid (((below_new wr (.cells #[.int .u32 0, .slice none 0 0] 36)).drew).grown hgrow9 ((below_new wr (.cells #[.int .u32 0, .slice none 0 0] 36)).drew).size (fun k hk => by cases hk))
            clear hown9 hgrow9
            try go_wp2_with fail
            refine hK.out _ _ ?_ (fun hHeld => ?_)
            · exact trivial
            clear hK K
            try simp only [List.getElem_toArray, List.getElem_cons_succ, List.getElem_cons_zero, Act.put, List.setIfInBounds_toArray, List.set_cons_zero, List.set_cons_succ]
            refine wpAnyH_take (i := 9) (v := ?_) rfl (by kernel_rfl) (by kernel_rfl) (by kernel_rfl) (fun _ _ _ h => h) (Or.inl ⟨by rfl, ?_⟩) hHeld ?_
            rotate_left
            · intro w' hSw; go_simp; try with_reducible rfl
            simp only [List.getElem_toArray, List.getElem_cons_succ, List.getElem_cons_zero, Act.put, List.setIfInBounds_toArray, List.set_cons_zero, List.set_cons_succ]
            refine wpAnyH_ready (rs := [11]) (by kernel_rfl) (by simp) ?_
            refine AllReadyH.cons rfl (fun K hK => ?_) AllReadyH.nil
            rw [if_pos (by rfl)]
            have hbx : w9.heap[wr.heap.size]? = some (.cells #[.int .u32 0, .slice none 0 0] 36 (0, 0)) := (G9.out.block _ (Nat.lt_of_lt_of_le (Nat.lt_succ_self _) (Nat.le_of_eq (heap_alloc_size wr _).symm)) (fun e => by cases e)).trans (heap_alloc_self wr _)
            refine wp_store_2 36 _ _ rfl wr.heap.size rfl rfl hbx infoRec2 rfl rfl ?_
            refine hK.out _ _ ?_ (fun hHeld => ?_)
            · exact trivial
            clear hK K
            try simp only [List.getElem_toArray, List.getElem_cons_succ, List.getElem_cons_zero, Act.put, List.setIfInBounds_toArray, List.set_cons_zero, List.set_cons_succ]
            refine wpAnyH_done (by kernel_rfl) ?_ _
            go_wp2_with fail
            go_meet
            exact ⟨_, A9, _, c9, rfl, setRow_heap _ _ _ _ _ _ hbx, Nat.le_refl _, rfl, owns_mono (owns_setRow O9.out (Nat.lt_succ_self _) _) (Nat.le_succ _), below_setRow B9.out (Nat.le_refl _) _⟩
        · go_simp
          refine hK.out _ _ ?_ (fun hHeld => ?_)
          · exact trivial
          clear hK K
          try simp only [List.getElem_toArray, List.getElem_cons_succ, List.getElem_cons_zero, Act.put, List.setIfInBounds_toArray, List.set_cons_zero, List.set_cons_succ]
          refine wpAnyH_ready (rs := [2]) (by kernel_rfl) (by simp) ?_
          refine AllReadyH.cons rfl (fun K hK => ?_) AllReadyH.nil
          go_simp
          refine (rget_any _ _ (wr.alloc (.cells #[.int .u32 0, .slice none 0 0] 36)).drew ((TH4.out.below (below_new wr (.cells #[.int .u32 0, .slice none 0 0] 36)).drew).more ((below_new wr (.cells #[.int .u32 0, .slice none 0 0] 36)).drew).size) (by rw [List.length_take]; omega)).mono ?_
          rintro e wA ⟨rfl, rfl⟩
          rw [← HG.out]
          try go_wp2_with fail
          refine hK.out _ _ ?_ (fun hHeld => ?_)
          · exact trivial
          clear hK K
          try simp only [List.getElem_toArray, List.getElem_cons_succ, List.getElem_cons_zero, Act.put, List.setIfInBounds_toArray, List.set_cons_zero, List.set_cons_succ]
          refine wpAnyH_take (i := 3) (v := ?_) rfl (by kernel_rfl) (by kernel_rfl) (by kernel_rfl) (fun _ _ _ h => h) (Or.inl ⟨by rfl, ?_⟩) hHeld ?_
          rotate_left
          · intro w' hSw; go_simp; try with_reducible rfl
          simp only [List.getElem_toArray, List.getElem_cons_succ, List.getElem_cons_zero, Act.put, List.setIfInBounds_toArray, List.set_cons_zero, List.set_cons_succ]
          refine wpAnyH_ready (rs := [8]) (by kernel_rfl) (by simp) ?_
          refine AllReadyH.cons rfl (fun K hK => ?_) AllReadyH.nil
          rw [if_pos (by rfl)]
          refine wp_append_txt (.const (.slice none 0 0)) (.tmp 59) _ rfl Try.underlying34 J0.out J1.out J2.out J3.out rfl (World.ownsRow_nil (wr.alloc (.cells #[.int .u32 0, .slice none 0 0] 36)).drew (wr.heap.size + 1) _ _) rfl (HPT.out.below (below_new wr (.cells #[.int .u32 0, .slice none 0 0] 36)).drew) (by rw [HPL.out]; omega) (by rw [show (wr.alloc (.cells #[.int .u32 0, .slice none 0 0] 36)).drew.heap.size = wr.heap.size + 1 from heap_alloc_size _ _]; exact Nat.le_refl _) ?_
          intro v9 w9 hown9 hgrow9
          rw [Nat.zero_add, HPL.out, List.nil_append] at hown9
          obtain ⟨A9, c9, rfl⟩ := own_slice_ hown9
          have O9 := Lib.hid hown9
          have G9 := Lib.hid hgrow9
          have B9 : Hid (Below wr.heap.size wr w9) := Lib.hid (((below_new wr (.cells #[.int .u32 0, .slice none 0 0] 36)).drew).grown hgrow9 ((below_new wr (.cells #[.int .u32 0, .slice none 0 0] 36)).drew).size (fun k hk => by cases hk))
          clear hown9 hgrow9
          try go_wp2_with fail
          refine hK.out _ _ ?_ (fun hHeld => ?_)
          · exact trivial
          clear hK K
          try simp only [List.getElem_toArray, List.getElem_cons_succ, List.getElem_cons_zero, Act.put, List.setIfInBounds_toArray, List.set_cons_zero, List.set_cons_succ]
          refine wpAnyH_take (i := 9) (v := ?_) rfl (by kernel_rfl) (by kernel_rfl) (by kernel_rfl) (fun _ _ _ h => h) (Or.inl ⟨by rfl, ?_⟩) hHeld ?_
          rotate_left
          · intro w' hSw; go_simp; try with_reducible rfl
          simp only [List.getElem_toArray, List.getElem_cons_succ, List.getElem_cons_zero, Act.put, List.setIfInBounds_toArray, List.set_cons_zero, List.set_cons_succ]
          refine wpAnyH_ready (rs := [11]) (by kernel_rfl) (by simp) ?_
          refine AllReadyH.cons rfl (fun K hK => ?_) AllReadyH.nil
          rw [if_pos (by rfl)]
          have hbx : w9.heap[wr.heap.size]? = some (.cells #[.int .u32 0, .slice none 0 0] 36 (0, 0)) := (G9.out.block _ (Nat.lt_of_lt_of_le (Nat.lt_succ_self _) (Nat.le_of_eq (heap_alloc_size wr _).symm)) (fun e => by cases e)).trans (heap_alloc_self wr _)
          refine wp_store_2 36 _ _ rfl wr.heap.size rfl rfl hbx infoRec2 rfl rfl ?_
          refine hK.out _ _ ?_ (fun hHeld => ?_)
          · exact trivial
          clear hK K
          try simp only [List.getElem_toArray, List.getElem_cons_succ, List.getElem_cons_zero, Act.put, List.setIfInBounds_toArray, List.set_cons_zero, List.set_cons_succ]
          refine wpAnyH_done (by kernel_rfl) ?_ _
          go_wp2_with fail
          go_meet
          exact ⟨_, A9, _, c9, rfl, setRow_heap _ _ _ _ _ _ hbx, Nat.le_refl _, rfl, owns_mono (owns_setRow O9.out (Nat.lt_succ_self _) _) (Nat.le_succ _), below_setRow B9.out (Nat.le_refl _) _⟩
      case rest =>
        obtain ⟨p, A9, n9, c9, rfl, hx, hpl, rfl, ho9, hbl⟩ := hcut
        obtain ⟨w10, hw10⟩ : ∃ w10 : World, w10 = wc := ⟨_, rfl⟩
        subst hw10
        have PX := Lib.hid hx
        have PL := Lib.hid hpl
        have O9 := Lib.hid ho9
        have B10 := Lib.hid (BW.out.trans (hbl.mono BW.out.size))
        have Y0 := Lib.hid ((hbl.block _ (heap_lt (show wA.heap[w.heap.size]? = _ from (HB.out.block _ (heap_lt X0.out)).trans X0.out))).trans ((HB.out.block _ (heap_lt X0.out)).trans X0.out))
        have Y1 := Lib.hid ((hbl.block _ (heap_lt X1R.out)).trans X1R.out)
        have LA : Hid (w.heap.size + 2 ≤ wA.heap.size) := Lib.hid (Nat.le_trans LF.out HB.out.size)
        have T9 := Lib.hid (own_txt ho9 rfl HPL.out.symm (by rw [HPL.out]; omega))
        clear r0 r1 f0 f1 hx hpl ho9 hbl hcf4 hc6z hm1 hmw hm2 hm3 hm4 hm5 hm6 HPT TH4 HSUB TB T0 HO
        obtain ⟨k0, k1⟩ := cell2_of PX.out
        obtain ⟨r0, r1⟩ := cell2_of Y1.out
        have f0 := frozen2_of Y1.out 0
        have f1 := frozen2_of Y1.out 1
        by_cases hg0 : g = 0
        · have hg0' : (g : Int) = 0 := by omega
          have HW := Lib.hid (NG.out fun ht => by have := ht.ok.1; omega)
          clear hg0
          go_wp2_with fail
          refine bodyPost_ret (results_2_tmp rfl _ _ (w.heap.size + 1) rfl (heap_set2 Y1.out _ _) Try.underlying36 infoRec2 (.bool false) rfl) rfl ⟨by rw [HW.out]; rfl, below_set2 B10.out (Nat.le_succ _) _ _⟩
        have hg0' : ¬ (g : Int) = 0 := by omega
        have hg1 : 1 ≤ g := by omega
        by_cases hsk : slotN g = k
        · have hsk' : (((slotN g : Nat) : Int) != k) = false := by rw [bne_eq_false_iff_eq]; omega
          have hsk2 : decide (((slotN g : Nat) : Int) = k) = true := decide_eq_true (by omega)
          have HSK := Lib.hid hsk
          clear hsk
          go_wp2_with (refine (rslot_any g _).mono ?_; rintro e w' ⟨rfl, rfl⟩)
          refine (rsectors_any g _ t hg32 (by rw [HPL.out]; omega) w10 T9.out).mono ?_
          rintro e w11 ⟨y, rfl, hsa, b11⟩
          obtain ⟨A11, c11, rfl⟩ := secs_slice hsa
          rw [secsR_length] at hsa ⊢
          obtain ⟨N, hN⟩ : ∃ N, N = cntR t := ⟨_, rfl⟩
          rw [← hN] at hsa ⊢
          have hN16 : N ≤ 16 := by rw [hN]; exact cntR_le (by rw [HPL.out]; omega)
          have HN := Lib.hid hN
          have HSA := Lib.hid hsa
          have P1 := Lib.hid ((b11.block _ (heap_lt PX.out)).trans PX.out)
          have Z0 := Lib.hid ((b11.block _ (heap_lt Y0.out)).trans Y0.out)
          have Z1 := Lib.hid ((b11.block _ (heap_lt Y1.out)).trans Y1.out)
          have OT := Lib.hid (owns_below O9.out b11)
          have B11 := Lib.hid (B10.out.trans (b11.mono B10.out.size))
          clear k0 k1 r0 r1 f0 f1 hsa b11 hN hg0 hg0' hsk' hsk2
          obtain ⟨r0, r1⟩ := cell2_of Z1.out
          have f0 := frozen2_of Z1.out 0
          have f1 := frozen2_of Z1.out 1
          by_cases hNi : N = i
          · subst hNi
            clear r0 r1 f0 f1
            go_wp2_with fail
            go_loopw [14] (fun s14 wr => ∃ j : Nat, j ≤ N ∧ s14 = .int .i64 j ∧ (∀ a, a < j → (secsR g t)[a]? = S[a]?) ∧ Below w11.heap.size w11 wr) (fun s14 _ => N - (intOf s14).toNat)
            case atStart => exact ⟨0, by omega, by go_num, fun a ha => absurd ha (by omega), Below.refl _ _⟩
            case round =>
              obtain ⟨j, hj, rfl, hall, hb⟩ := hrel
              have HALL := Lib.hid hall
              have HB2 := Lib.hid hb
              have BW2 := Lib.hid (B11.out.trans (hb.mono B11.out.size))
              have V0 := Lib.hid ((hb.block _ (heap_lt Z0.out)).trans Z0.out)
              have V1 := Lib.hid ((hb.block _ (heap_lt Z1.out)).trans Z1.out)
              have VP := Lib.hid ((hb.block _ (heap_lt P1.out)).trans P1.out)
              clear hall hb
              by_cases hlt : j < N
              · have hlt' : (j : Int) < N := by omega
                have hjt : j < cntR t := by rw [← HN.out]; exact hlt
                obtain ⟨ab, A12, c12, hA, habl, habw, hcell, hown, -⟩ := secsAt_cell HSA.out (secsR_at hjt)
                subst hA
                rw [secR_length] at hcell hown
                have LAB : Hid (ab < wr.heap.size) := Lib.hid (Nat.lt_of_lt_of_le habw HB2.out.size)
                have HCE : Hid (wr.cell? ⟨ab, j, none⟩ = some (.slice A12 128 c12)) := Lib.hid ((HB2.out.cell (p := ⟨ab, j, none⟩) habw).trans hcell)
                have TSEC := Lib.hid (own_txt (owns_below hown HB2.out) rfl (secR_length g (bodyR g t) j).symm (by rw [secR_length]; omega))
                have hsa := secsR_at (g := g) hjt
                obtain ⟨sc, hsc⟩ : ∃ sc, S[j]? = some sc := ⟨_, List.getElem?_eq_getElem (by have := SL.out; omega)⟩
                have HS128 := Lib.hid (S128.out sc (List.mem_of_getElem? hsc))
                obtain ⟨a, ha⟩ : ∃ a, a = k + j := ⟨_, rfl⟩
                have HVA : Hid ((viewL ss ws)[a]? = some sc) := Lib.hid (by rw [ha, SAT.out j (by omega), hsc])
                have hki : (k : Int) + j = a := by omega
                have ha32 : a < 32 := by omega
                have hwa : IntKind.i64.wrap (a : Int) = a := by simp [IntKind.wrap, IntKind.bits]; omega
                have HNX : Hid (secR g (bodyR g t) j = sc → ∀ b, b < j + 1 → (secsR g t)[b]? = S[b]?) := Lib.hid (fun he b hb => by
                  rcases Nat.lt_or_ge b j with h | h
                  · exact HALL.out b h
                  · obtain rfl : b = j := by omega
                    rw [hsa, hsc, he])
                have HNY : Hid (secR g (bodyR g t) j ≠ sc → wholeR S k = none) := Lib.hid (fun he => NG.out fun ht => he (by
                  have h := ht.secs j hlt
                  rw [hsa, hsc] at h
                  exact Option.some.inj h))
                generalize secR g (bodyR g t) j = sec at TSEC HNX HNY
                clear hsa hsc ha hcell hown habl habw hjt hlt
                by_cases he : sec = sc
                · subst he
                  have HNZ := Lib.hid (HNX.out rfl)
                  clear HNX HNY HALL
                  go_wp2_with fail
                  refine wp_region_held_drew (S := fun v => Below wr.heap.size wr v) (by kernel_rfl) ((Below.refl wr.heap.size wr).drew) (fun hHeld => ?_)
                  refine wpAnyH_take (i := 0) (v := ?_) rfl (by kernel_rfl) (by kernel_rfl) (by kernel_rfl) (fun _ _ _ h => h) (Or.inl ⟨by rfl, ?_⟩) hHeld ?_
                  rotate_left
                  · intro w' hSw; go_simp; try with_reducible rfl
                  simp only [List.getElem_toArray, List.getElem_cons_succ, List.getElem_cons_zero, Act.put, List.setIfInBounds_toArray, List.set_cons_zero, List.set_cons_succ]
                  refine wpAnyH_take (i := 1) (v := ?_) rfl (by kernel_rfl) (by kernel_rfl) (by kernel_rfl) (fun _ _ _ h => h) (Or.inl ⟨by rfl, ?_⟩) hHeld ?_
                  rotate_left
                  · intro w' hSw; go_simp; try with_reducible rfl
                  simp only [List.getElem_toArray, List.getElem_cons_succ, List.getElem_cons_zero, Act.put, List.setIfInBounds_toArray, List.set_cons_zero, List.set_cons_succ]
                  refine wpAnyH_take (i := 2) (v := ?_) rfl (by kernel_rfl) (by kernel_rfl) (by kernel_rfl) (fun _ _ _ h => h) (Or.inl ⟨by rfl, ?_⟩) hHeld ?_
                  rotate_left
                  · intro w' hSw; go_simp; try with_reducible rfl
                  simp only [List.getElem_toArray, List.getElem_cons_succ, List.getElem_cons_zero, Act.put, List.setIfInBounds_toArray, List.set_cons_zero, List.set_cons_succ]
                  refine wpAnyH_take (i := 3) (v := ?_) rfl (by kernel_rfl) (by kernel_rfl) (by kernel_rfl) (fun _ _ _ h => h) (Or.inl ⟨by rfl, ?_⟩) hHeld ?_
                  rotate_left
                  · intro w' hSw; have ce := (hSw.cell (p := ⟨ab, j, none⟩) LAB.out).trans HCE.out; go_simp; try with_reducible rfl
                  simp only [List.getElem_toArray, List.getElem_cons_succ, List.getElem_cons_zero, Act.put, List.setIfInBounds_toArray, List.set_cons_zero, List.set_cons_succ]
                  refine wpAnyH_take (i := 4) (v := ?_) rfl (by kernel_rfl) (by kernel_rfl) (by kernel_rfl) (fun _ _ _ h => h) (Or.inl ⟨by rfl, ?_⟩) hHeld ?_
                  rotate_left
                  · intro w' hSw; have cs := run_txt_string (TSEC.out.below hSw); go_simp; try with_reducible rfl
                  simp only [List.getElem_toArray, List.getElem_cons_succ, List.getElem_cons_zero, Act.put, List.setIfInBounds_toArray, List.set_cons_zero, List.set_cons_succ]
                  refine wpAnyH_take (i := 5) (v := ?_) rfl (by kernel_rfl) (by kernel_rfl) (by kernel_rfl) (fun _ _ _ h => h) (Or.inl ⟨by rfl, ?_⟩) hHeld ?_
                  rotate_left
                  · intro w' hSw; obtain ⟨cu0, cu1⟩ := cell2_of ((hSw.block _ (heap_lt V0.out)).trans V0.out); go_simp; try with_reducible rfl
                  simp only [List.getElem_toArray, List.getElem_cons_succ, List.getElem_cons_zero, Act.put, List.setIfInBounds_toArray, List.set_cons_zero, List.set_cons_succ]
                  refine wpAnyH_take (i := 6) (v := ?_) rfl (by kernel_rfl) (by kernel_rfl) (by kernel_rfl) (fun _ _ _ h => h) (Or.inl ⟨by rfl, ?_⟩) hHeld ?_
                  rotate_left
                  · intro w' hSw; go_simp; try with_reducible rfl
                  simp only [List.getElem_toArray, List.getElem_cons_succ, List.getElem_cons_zero, Act.put, List.setIfInBounds_toArray, List.set_cons_zero, List.set_cons_succ]
                  refine wpAnyH_take (i := 7) (v := ?_) rfl (by kernel_rfl) (by kernel_rfl) (by kernel_rfl) (fun _ _ _ h => h) (Or.inl ⟨by rfl, ?_⟩) hHeld ?_
                  rotate_left
                  · intro w' hSw; go_simp; try with_reducible rfl
                  simp only [List.getElem_toArray, List.getElem_cons_succ, List.getElem_cons_zero, Act.put, List.setIfInBounds_toArray, List.set_cons_zero, List.set_cons_succ]
                  refine wpAnyH_take (i := 8) (v := ?_) rfl (by kernel_rfl) (by kernel_rfl) (by kernel_rfl) (fun _ _ _ h => h) (Or.inl ⟨by rfl, ?_⟩) hHeld ?_
                  rotate_left
                  · intro w' hSw; go_simp; try with_reducible rfl
                  simp only [List.getElem_toArray, List.getElem_cons_succ, List.getElem_cons_zero, Act.put, List.setIfInBounds_toArray, List.set_cons_zero, List.set_cons_succ]
                  refine wpAnyH_ready (rs := [9]) (by kernel_rfl) (by simp) ?_
                  refine AllReadyH.cons rfl (fun K hK => ?_) AllReadyH.nil
                  go_simp
                  refine (rseen_view _ ss ws wr.drew ((H.out.below BW2.out.drew).more BW2.out.drew.size) HM.out HVA.out).mono ?_
                  rintro e wB ⟨y2, rfl, ho2, bB⟩
                  obtain ⟨A13, c13, rfl⟩ := own_slice_ ho2
                  have TB2 := Lib.hid (own_txt ho2 rfl HS128.out.symm (by rw [HS128.out]; omega))
                  have BB := Lib.hid ((Below.refl wr.heap.size wr).drew.trans bB)
                  clear ho2 bB
                  try go_wp2_with fail
                  refine hK.out _ _ ?_ (fun hHeld => ?_)
                  · exact BB.out
                  clear hK K
                  try simp only [List.getElem_toArray, List.getElem_cons_succ, List.getElem_cons_zero, Act.put, List.setIfInBounds_toArray, List.set_cons_zero, List.set_cons_succ]
                  refine wpAnyH_ready (rs := [10]) (by kernel_rfl) (by simp) ?_
                  refine AllReadyH.cons rfl (fun K hK => ?_) AllReadyH.nil
                  have cs2 := run_txt_string TB2.out
                  go_simp
                  refine hK.out _ _ ?_ (fun hHeld => ?_)
                  · exact BB.out
                  clear hK K
                  try simp only [List.getElem_toArray, List.getElem_cons_succ, List.getElem_cons_zero, Act.put, List.setIfInBounds_toArray, List.set_cons_zero, List.set_cons_succ]
                  refine wpAnyH_take (i := 11) (v := ?_) rfl (by kernel_rfl) (by kernel_rfl) (by kernel_rfl) (fun _ _ _ h => h) (Or.inl ⟨by rfl, ?_⟩) hHeld ?_
                  rotate_left
                  · intro w' hSw; go_simp; try with_reducible rfl
                  simp only [List.getElem_toArray, List.getElem_cons_succ, List.getElem_cons_zero, Act.put, List.setIfInBounds_toArray, List.set_cons_zero, List.set_cons_succ]
                  refine wpAnyH_done (by kernel_rfl) ?_ _
                  have BN := Lib.hid (HB2.out.trans (BB.out.mono HB2.out.size))
                  go_wp2_with fail
                  go_roundw
                  case measure => simp [intOf]; omega
                  case rel => exact ⟨j + 1, by omega, by go_num, HNZ.out, BN.out⟩
                · have HW := Lib.hid (HNY.out he)
                  have hq1 : (sec == sc) = false := by simpa using he
                  have hq2 : (sec != sc) = true := by simpa using he
                  have hq3 : ¬ sec.toArray = sc.toArray := fun h => he (by simpa using h)
                  clear HNX HNY HALL
                  go_wp2_with fail
                  refine wp_region_held_drew (S := fun v => Below wr.heap.size wr v) (by kernel_rfl) ((Below.refl wr.heap.size wr).drew) (fun hHeld => ?_)
                  refine wpAnyH_take (i := 0) (v := ?_) rfl (by kernel_rfl) (by kernel_rfl) (by kernel_rfl) (fun _ _ _ h => h) (Or.inl ⟨by rfl, ?_⟩) hHeld ?_
                  rotate_left
                  · intro w' hSw; go_simp; try with_reducible rfl
                  simp only [List.getElem_toArray, List.getElem_cons_succ, List.getElem_cons_zero, Act.put, List.setIfInBounds_toArray, List.set_cons_zero, List.set_cons_succ]
                  refine wpAnyH_take (i := 1) (v := ?_) rfl (by kernel_rfl) (by kernel_rfl) (by kernel_rfl) (fun _ _ _ h => h) (Or.inl ⟨by rfl, ?_⟩) hHeld ?_
                  rotate_left
                  · intro w' hSw; go_simp; try with_reducible rfl
                  simp only [List.getElem_toArray, List.getElem_cons_succ, List.getElem_cons_zero, Act.put, List.setIfInBounds_toArray, List.set_cons_zero, List.set_cons_succ]
                  refine wpAnyH_take (i := 2) (v := ?_) rfl (by kernel_rfl) (by kernel_rfl) (by kernel_rfl) (fun _ _ _ h => h) (Or.inl ⟨by rfl, ?_⟩) hHeld ?_
                  rotate_left
                  · intro w' hSw; go_simp; try with_reducible rfl
                  simp only [List.getElem_toArray, List.getElem_cons_succ, List.getElem_cons_zero, Act.put, List.setIfInBounds_toArray, List.set_cons_zero, List.set_cons_succ]
                  refine wpAnyH_take (i := 3) (v := ?_) rfl (by kernel_rfl) (by kernel_rfl) (by kernel_rfl) (fun _ _ _ h => h) (Or.inl ⟨by rfl, ?_⟩) hHeld ?_
                  rotate_left
                  · intro w' hSw; have ce := (hSw.cell (p := ⟨ab, j, none⟩) LAB.out).trans HCE.out; go_simp; try with_reducible rfl
                  simp only [List.getElem_toArray, List.getElem_cons_succ, List.getElem_cons_zero, Act.put, List.setIfInBounds_toArray, List.set_cons_zero, List.set_cons_succ]
                  refine wpAnyH_take (i := 4) (v := ?_) rfl (by kernel_rfl) (by kernel_rfl) (by kernel_rfl) (fun _ _ _ h => h) (Or.inl ⟨by rfl, ?_⟩) hHeld ?_
                  rotate_left
                  · intro w' hSw; have cs := run_txt_string (TSEC.out.below hSw); go_simp; try with_reducible rfl
                  simp only [List.getElem_toArray, List.getElem_cons_succ, List.getElem_cons_zero, Act.put, List.setIfInBounds_toArray, List.set_cons_zero, List.set_cons_succ]
                  refine wpAnyH_take (i := 5) (v := ?_) rfl (by kernel_rfl) (by kernel_rfl) (by kernel_rfl) (fun _ _ _ h => h) (Or.inl ⟨by rfl, ?_⟩) hHeld ?_
                  rotate_left
                  · intro w' hSw; obtain ⟨cu0, cu1⟩ := cell2_of ((hSw.block _ (heap_lt V0.out)).trans V0.out); go_simp; try with_reducible rfl
                  simp only [List.getElem_toArray, List.getElem_cons_succ, List.getElem_cons_zero, Act.put, List.setIfInBounds_toArray, List.set_cons_zero, List.set_cons_succ]
                  refine wpAnyH_take (i := 6) (v := ?_) rfl (by kernel_rfl) (by kernel_rfl) (by kernel_rfl) (fun _ _ _ h => h) (Or.inl ⟨by rfl, ?_⟩) hHeld ?_
                  rotate_left
                  · intro w' hSw; go_simp; try with_reducible rfl
                  simp only [List.getElem_toArray, List.getElem_cons_succ, List.getElem_cons_zero, Act.put, List.setIfInBounds_toArray, List.set_cons_zero, List.set_cons_succ]
                  refine wpAnyH_take (i := 7) (v := ?_) rfl (by kernel_rfl) (by kernel_rfl) (by kernel_rfl) (fun _ _ _ h => h) (Or.inl ⟨by rfl, ?_⟩) hHeld ?_
                  rotate_left
                  · intro w' hSw; go_simp; try with_reducible rfl
                  simp only [List.getElem_toArray, List.getElem_cons_succ, List.getElem_cons_zero, Act.put, List.setIfInBounds_toArray, List.set_cons_zero, List.set_cons_succ]
                  refine wpAnyH_take (i := 8) (v := ?_) rfl (by kernel_rfl) (by kernel_rfl) (by kernel_rfl) (fun _ _ _ h => h) (Or.inl ⟨by rfl, ?_⟩) hHeld ?_
                  rotate_left
                  · intro w' hSw; go_simp; try with_reducible rfl
                  simp only [List.getElem_toArray, List.getElem_cons_succ, List.getElem_cons_zero, Act.put, List.setIfInBounds_toArray, List.set_cons_zero, List.set_cons_succ]
                  refine wpAnyH_ready (rs := [9]) (by kernel_rfl) (by simp) ?_
                  refine AllReadyH.cons rfl (fun K hK => ?_) AllReadyH.nil
                  go_simp
                  refine (rseen_view _ ss ws wr.drew ((H.out.below BW2.out.drew).more BW2.out.drew.size) HM.out HVA.out).mono ?_
                  rintro e wB ⟨y2, rfl, ho2, bB⟩
                  obtain ⟨A13, c13, rfl⟩ := own_slice_ ho2
                  have TB2 := Lib.hid (own_txt ho2 rfl HS128.out.symm (by rw [HS128.out]; omega))
                  have BB := Lib.hid ((Below.refl wr.heap.size wr).drew.trans bB)
                  clear ho2 bB
                  try go_wp2_with fail
                  refine hK.out _ _ ?_ (fun hHeld => ?_)
                  · exact BB.out
                  clear hK K
                  try simp only [List.getElem_toArray, List.getElem_cons_succ, List.getElem_cons_zero, Act.put, List.setIfInBounds_toArray, List.set_cons_zero, List.set_cons_succ]
                  refine wpAnyH_ready (rs := [10]) (by kernel_rfl) (by simp) ?_
                  refine AllReadyH.cons rfl (fun K hK => ?_) AllReadyH.nil
                  have cs2 := run_txt_string TB2.out
                  go_simp
                  refine hK.out _ _ ?_ (fun hHeld => ?_)
                  · exact BB.out
                  clear hK K
                  try simp only [List.getElem_toArray, List.getElem_cons_succ, List.getElem_cons_zero, Act.put, List.setIfInBounds_toArray, List.set_cons_zero, List.set_cons_succ]
                  refine wpAnyH_take (i := 11) (v := ?_) rfl (by kernel_rfl) (by kernel_rfl) (by kernel_rfl) (fun _ _ _ h => h) (Or.inl ⟨by rfl, ?_⟩) hHeld ?_
                  rotate_left
                  · intro w' hSw; go_simp; try with_reducible rfl
                  simp only [List.getElem_toArray, List.getElem_cons_succ, List.getElem_cons_zero, Act.put, List.setIfInBounds_toArray, List.set_cons_zero, List.set_cons_succ]
                  refine wpAnyH_done (by kernel_rfl) ?_ _
                  have V2 := Lib.hid ((BB.out.block _ (heap_lt V1.out)).trans V1.out)
                  have BZ := Lib.hid (BW2.out.trans (BB.out.mono BW2.out.size))
                  obtain ⟨r0, r1⟩ := cell2_of V2.out
                  have f0 := frozen2_of V2.out 0
                  have f1 := frozen2_of V2.out 1
                  go_wp2_with fail
                  refine bodyPost_ret (results_2_tmp rfl _ _ (w.heap.size + 1) rfl (heap_set2 V2.out _ _) Try.underlying36 infoRec2 (.bool false) rfl) rfl ⟨by rw [HW.out]; rfl, below_set2 BZ.out (Nat.le_succ _) _ _⟩
              · obtain rfl : j = N := by omega
                have hlt' : ¬ (j : Int) < j := by omega
                have HW := Lib.hid (whole_of (k := k) SL.out S128.out ⟨hg1, hg32, by rw [HPL.out]; omega⟩ HSK.out HN.out HALL.out)
                obtain ⟨k0, k1⟩ := cell2_of VP.out
                obtain ⟨r0, r1⟩ := cell2_of V1.out
                have f0 := frozen2_of V1.out 0
                have f1 := frozen2_of V1.out 1
                have OTR := Lib.hid (owns_below OT.out HB2.out)
                clear HALL
                go_wp2_with fail
                refine bodyPost_ret (results_2_tmp rfl _ _ (w.heap.size + 1) rfl (heap_set2 V1.out _ _) Try.underlying36 infoRec2 (.bool true) rfl) rfl ⟨?_, below_set2 BW2.out (Nat.le_succ _) _ _⟩
                rw [HW.out]
                have hown := OTR.out.kept (grown_set2 wr (w.heap.size + 1) (.int .u32 (g : Int)) (.slice A9 n9 c9)) (by
                  cases hv : (Value.slice A9 n9 c9).ownBlock with
                  | none => exact .inl rfl
                  | some q => refine .inr (fun e => ?_); injection e with e; have := own_ge OTR.out _ hv; have := LA.out; omega)
                have htx := own_txt hown rfl HPL.out.symm (by rw [HPL.out]; omega)
                refine ⟨A9, c9, ?_, ?_⟩
                · rw [HPL.out]
                · rw [HPL.out]; exact htx
          · have hNi1 : ((N : Int) != i) = true := by rw [bne_iff_ne]; omega
            have hNi2 : decide ((N : Int) = i) = false := decide_eq_false (by omega)
            have HW := Lib.hid (NG.out fun ht => hNi (by rw [HN.out]; exact ht.cnt.symm))
            clear hNi
            go_wp2_with fail
            refine bodyPost_ret (results_2_tmp rfl _ _ (w.heap.size + 1) rfl (heap_set2 Z1.out _ _) Try.underlying36 infoRec2 (.bool false) rfl) rfl ⟨by rw [HW.out]; rfl, below_set2 B11.out (Nat.le_succ _) _ _⟩
        · have hsk' : (((slotN g : Nat) : Int) != k) = true := by rw [bne_iff_ne]; omega
          have hsk2 : decide (((slotN g : Nat) : Int) = k) = false := decide_eq_false (by omega)
          have HW := Lib.hid (NG.out fun ht => hsk ht.slot)
          clear hsk
          go_wp2_with (refine (rslot_any g _).mono ?_; rintro e w' ⟨rfl, rfl⟩)
          refine bodyPost_ret (results_2_tmp rfl _ _ (w.heap.size + 1) rfl (heap_set2 Y1.out _ _) Try.underlying36 infoRec2 (.bool false) rfl) rfl ⟨by rw [HW.out]; rfl, below_set2 B10.out (Nat.le_succ _) _ _⟩
end Go.Proofs.Ytdjoflhcagfmiaa
