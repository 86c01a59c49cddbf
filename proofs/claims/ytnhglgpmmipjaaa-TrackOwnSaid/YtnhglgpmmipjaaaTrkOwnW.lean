/-
  The statement TrackOwn's text returns true.
  Conditions: none.
-/
import Derived.Test.YtnhglgpmmipjaaaTrkSet
set_option linter.unusedVariables false
set_option linter.unusedSimpArgs false
set_option maxRecDepth 100000
namespace Go.Proofs.Ytnhglgpmmipjaaa
open Go.RowKit

theorem join_small {l : List Sec} (h : TMay l) {i k : Nat} (hi : i < l.length) (hk : k < l[i].2.2.length) : (l[i].2.2[k]).1 ≤ 99 := by
  obtain ⟨-, h2, -, h4⟩ := may_parts h
  have hg : l[i].2.2.getD k (0, 0) = l[i].2.2[k] := by rw [List.getD_eq_getElem?_getD, List.getElem?_eq_getElem hk]; rfl
  have h5 := h4 _ (List.getElem_mem hi) k hk
  rw [hg] at h5
  rcases h5 with e | ⟨t, ht, e, -⟩
  · rw [e]; decide
  · have := (h2 t ht).2.1; omega

set_option maxHeartbeats 4000000 in
theorem walk_own (hp : TrkSaid) (v : Value) (l : List Sec) (x : Int) (hx0 : 0 ≤ x) (hx1 : x < 256) (w : World) (h : SectsIn w w.heap.size v l) :
    Calls Try.prog 9 #[v, .int .u8 x] w fun e w' => e = .returned (.bool true) ∧ Below w.heap.size w w' := by
  have H := Lib.hid h
  obtain ⟨A, c, rfl, -, -⟩ := h.slice
  obtain ⟨n, hn⟩ : ∃ n, n = l.length := ⟨_, rfl⟩
  have HN := Lib.hid hn
  rw [← hn] at H ⊢
  clear h hn
  obtain ⟨i0, hi, hz0, hz1, hz2⟩ := info_parts infoSec
  have I0 := Lib.hid hi
  have I1 := Lib.hid hz0
  have I2 := Lib.hid hz1
  have I3 := Lib.hid hz2
  clear hi hz0 hz1 hz2
  go_enter Try.func9, Try.ntmps9
  go_wp2_with fail
  refine (alive7 hp w).mono ?_
  rintro e w1 ⟨rfl, b1⟩
  have B1 := Lib.hid b1
  have H1 := Lib.hid ((H.out.below secR_ b1).more secR_ b1.size)
  clear b1
  go_wp2_with fail
  refine (rgreat_any _ l w1 H1.out).mono ?_
  rintro e w' ⟨⟨g, rfl, hg⟩, hw'⟩
  obtain rfl : w1 = w' := hw'.symm
  cases g with
  | true =>
    go_wp2_with fail
    go_ret
    exact ⟨rfl, B1.out⟩
  | false =>
  clear hg
  go_wp2_with fail
  refine (hp.check _ l w1 H1.out).mono ?_
  rintro e w2 ⟨rfl, b2⟩
  have B2 := Lib.hid (B1.out.trans (b2.mono B1.out.size))
  clear b2 H1
  obtain ⟨E, hE⟩ : ∃ E, E = chkT l := ⟨_, rfl⟩
  rw [← hE]
  by_cases h0 : E = 0
  case neg =>
    have hEb : (E != 0) = true := by simpa using h0
    clear hE h0
    go_wp2_with fail
    go_ret
    exact ⟨rfl, B2.out⟩
  subst h0
  have HM := Lib.hid (chk_may hE.symm)
  have hn16 : n ≤ 16 := by rw [HN.out]; exact HM.out.n
  clear hE
  obtain ⟨N, hN, hN0, hN9⟩ : ∃ N : Int, x.tmod 90 = N ∧ 0 ≤ N ∧ N ≤ 89 := by
    obtain ⟨X, rfl⟩ : ∃ X : Nat, x = (X : Int) := ⟨x.toNat, by omega⟩
    refine ⟨((X % 90 : Nat) : Int), rfl, by omega, by omega⟩
  go_wp2_with fail
  clear hN
  go_loopw [6, 8] (fun s6 s8 wr => ∃ i : Nat, i ≤ n ∧ s8 = .int .i64 i ∧ SectsOwn wr w.heap.size s6 ((l.take i).map (shiftS N)) ∧ Below w.heap.size w wr) (fun _ s8 _ => n - (intOf s8).toNat)
  case atStart => exact ⟨0, by omega, rfl, ListOwn.nil_, B2.out⟩
  case round =>
    obtain ⟨i, hi, rfl, ho, hb⟩ := hrel
    have HB := Lib.hid hb
    have HO := Lib.hid ho
    have HH := Lib.hid ((H.out.below secR_ hb).more secR_ hb.size)
    obtain ⟨fl, hfl⟩ : ∃ fl, fl = (l.take i).map (shiftS N) := ⟨_, rfl⟩
    rw [← hfl] at ho HO
    have HFL := Lib.hid hfl
    have HFC : Hid (fl.length = i) := Lib.hid (by rw [hfl, List.length_map, List.length_take]; have := HN.out; omega)
    obtain ⟨A7, c7, hA7⟩ := ho.slice
    rw [HFC.out] at hA7
    subst hA7
    clear hb hfl ho
    by_cases hlt : i < n
    · have hlt' : (i : Int) < n := by omega
      have hls : i < l.length := by have := HN.out; omega
      have HTS : Hid ((l.take (i + 1)).map (shiftS N) = fl ++ [shiftS N l[i]]) := Lib.hid (by rw [List.take_add_one, List.getElem?_eq_getElem hls, HFL.out, List.map_append]; rfl)
      have HFI : Hid (l[i].2.2.length ≤ 3) := Lib.hid (shaped_few (HM.out.s i hls).2.2)
      have HJS : Hid (∀ (k : Nat) (hk : k < l[i].2.2.length), (l[i].2.2[k]).1 ≤ 99) := Lib.hid (fun k hk => join_small HM.out hls hk)
      have hs1 := (HM.out.s i hls).1
      have hs2 := (HM.out.s i hls).2.1
      obtain ⟨b, off, rfl, -⟩ := HH.out.at hls
      obtain ⟨hg0, hg1, Au, cu, hg2, hu⟩ := sect_cells HH.out hls
      generalize l[i] = s at HTS HFI HJS hs1 hs2 hg0 hg1 hg2 hu
      obtain ⟨sid, spt, es⟩ := s
      dsimp only at HTS HFI HJS hs1 hs2 hg0 hg1 hg2 hu
      obtain ⟨m, hm⟩ : ∃ m, m = es.length := ⟨_, rfl⟩
      have HMM := Lib.hid hm
      rw [← hm] at hg2 hu HFI
      have HSV : Hid (SecV wr wr.heap.size (.agg #[.int .i64 sid, .int .i64 spt, .slice Au m cu]) (sid, spt, es)) := Lib.hid ⟨_, rfl, hu⟩
      clear hu hm
      go_wp2_with fail
      refine (rtwin7_any _ (sid, spt, es) wr HSV.out (by show es.length ≤ 1000; have := HMM.out; have := HFI.out; omega)).mono ?_
      rintro e w3 ⟨u2, rfl, hu2, b3⟩
      obtain ⟨A2, c2, rfl⟩ := hu2.slice
      dsimp only at hu2 ⊢
      rw [← HMM.out] at hu2 ⊢
      have hy0 := heap_alloc_self w3 (.cells #[.int .i64 sid, .int .i64 spt, .slice A2 m c2] 33)
      have hyb := below_new w3 (.cells #[.int .i64 sid, .int .i64 spt, .slice A2 m c2] 33)
      obtain ⟨q3, hq⟩ : ∃ q3, q3 = w3.alloc (.cells #[.int .i64 sid, .int .i64 spt, .slice A2 m c2] 33) := ⟨_, rfl⟩
      rw [← hq] at hy0 hyb
      go_upto_region 10 with fail
      rw [← hq]
      have O3 := Lib.hid (hu2.below joinR hyb)
      have BR := Lib.hid (b3.trans (hyb.mono b3.size))
      have X3 := Lib.hid hy0
      have HP9 := Lib.hid (show wr.heap.size ≤ w3.heap.size from b3.size)
      have LOW := Lib.hid HB.out.size
      have OL := Lib.hid (joins_lt hu2)
      have hpg : ∀ k, (Value.slice A2 m c2).ownBlock = some k → k ≠ w3.heap.size := fun k hk => by have := OL.out k hk; omega
      have HPG := Lib.hid hpg
      generalize w3.heap.size = p9 at X3 HP9 HPG ⊢
      clear hy0 hyb hq hu2 b3 hg0 hg1 hg2 OL hpg
      have hfi := HFI.out
      obtain ⟨k0, k1, k2⟩ := cell3_of X3.out
      have f9 := frozen2_of X3.out 0
      go_upto_region 11 with fail
      have hx4 : (q3.setCell ⟨p9, 0, none⟩ (.int .i64 (sid + N))).heap[p9]? = some (.cells #[.int .i64 (sid + N), .int .i64 spt, .slice A2 m c2] 33 (0, 0)) := heap_setK X3.out _
      have ho4 := joins_kept O3.out (grown_setK q3 p9 0 (.int .i64 (sid + N))) HPG.out
      have hb4 := below_set BR.out HP9.out 0 (.int .i64 (sid + N))
      generalize q3.setCell ⟨p9, 0, none⟩ (.int .i64 (sid + N)) = q4 at hx4 ho4 hb4 ⊢
      have X5 := Lib.hid hx4
      have O5 := Lib.hid ho4
      have B5r := Lib.hid hb4
      clear k0 k1 k2 f9 hx4 ho4 hb4 X3 O3 BR
      go_wp2_with fail
      go_loopw [10] (fun s10 wy => ∃ k : Nat, k ≤ m ∧ s10 = .int .i64 k ∧ JoinsOwn wy wr.heap.size (.slice A2 m c2) (part7 (shiftJ N) es k) ∧ wy.heap[p9]? = some (.cells #[.int .i64 (sid + N), .int .i64 spt, .slice A2 m c2] 33 (0, 0)) ∧ Below wr.heap.size wr wy) (fun s10 _ => m - (intOf s10).toNat)
      case atStart => exact ⟨0, by omega, rfl, by rw [part7_zero]; exact O5.out, X5.out, B5r.out⟩
      case round =>
        obtain ⟨k, hk, rfl, hj, hx, hb⟩ := hrel
        have X4 := Lib.hid hx
        have J4 := Lib.hid hj
        have B4 := Lib.hid hb
        obtain ⟨k0, k1, k2⟩ := cell3_of hx
        clear hx hb
        by_cases hlt2 : k < m
        · have hlt2' : (k : Int) < m := by omega
          have hke : k < es.length := by have := HMM.out; omega
          have hpl : (part7 (shiftJ N) es k).length = es.length := part7_length _ _ (by omega)
          obtain ⟨g, cur, rfl, hlo, hc, hc0, hc1⟩ := joins_own_at hj (by rw [hpl]; exact hke)
          have HPA := Lib.hid (part7_at (shiftJ N) es hke)
          rw [part7_at _ _ hke] at hc0 hc1
          have HPN := Lib.hid (part7_next (shiftJ N) es hke)
          have HPS := Lib.hid (part7_same (shiftJ N) es hke)
          have HW : Hid (shiftJ N es[k] = if 0 < es[k].1 then (es[k].1 + N, es[k].2) else es[k]) := Lib.hid rfl
          have hj9 := HJS.out k hke
          have hf0 := frozen2_of hc (k * 2)
          have HNG : Hid (p9 ≠ g) := Lib.hid (fun e => by subst e; have h1 := X4.out; rw [hc] at h1; cases h1)
          have HLO := Lib.hid hlo
          have HPL : Hid ((part7 (shiftJ N) es k).length = m) := Lib.hid (hpl.trans HMM.out.symm)
          have HKP : Hid (k < (part7 (shiftJ N) es k).length) := Lib.hid (by rw [hpl]; exact hke)
          generalize es[k] = j at hc0 hc1 HPN HPS HW HPA hj9
          obtain ⟨jx, jy⟩ := j
          dsimp only at hc0 hc1 HW hj9
          clear hj hc hlo hpl
          by_cases hz : 0 < jx
          · have HW1 := Lib.hid (HW.out.trans (if_pos hz))
            go_wp2_with fail
            go_roundw
            case measure => simp [intOf]; omega
            case rel => exact ⟨k + 1, by omega, by go_num, by rw [HPN.out, HW1.out]; exact joins_set (q := 0) (z := jx + N) (x := (jx + N, jy)) J4.out HPL.out HKP.out (by omega) (by rw [if_pos rfl, HPA.out]), (heap_setFar _ g (k * 2) p9 _ HNG.out).trans X4.out, below_set B4.out HLO.out _ _⟩
          · have HPS1 := Lib.hid (HPS.out (HW.out.trans (if_neg hz)))
            clear hf0
            go_wp2_with fail
            go_roundw
            case measure => simp [intOf]; omega
            case rel => exact ⟨k + 1, by omega, by go_num, by rw [HPS1.out]; exact J4.out, X4.out, B4.out⟩
        · have hlt2' : ¬ ((k : Int) < m) := by omega
          have hkm : k = es.length := by have := HMM.out; omega
          rw [hkm, part7_all] at hj
          have J5 := Lib.hid hj
          obtain ⟨yss, hown, hyl, hm, hys, hyr⟩ := HO.out
          rw [HFC.out] at hown hyl
          have O := Lib.hid hown
          have HYL := Lib.hid hyl
          have HYS := Lib.hid hys
          have HYR := Lib.hid hyr
          have hfq := HFC.out
          clear hown hm hyl hys hyr hj hkm
          go_wp2_with ((with_reducible show wpList _ _ _ (⟨some 76, _, _, _, _, _⟩ :: _) _ _); refine wpList_append_list rfl (.tmp 73) (.tmp 75) _ rfl Try.underlying22 I0.out I1.out rfl I2.out (by decide) I3.out (by decide) rfl ((owns_below O.out B4.out).alloc _) (m := 1) rfl (news := [.int .i64 (sid + N), .int .i64 spt, .slice A2 m c2]) rfl (fun h => by cases h) (fun a ha j u hj => by cases ha; rw [Addr.add_lit, Nat.zero_add, World.cell?_alloc_new]; simpa using hj) (by simp [Value.oneCell']) (by omega) (by have := LOW.out; have := B4.out.size; simp; omega) ?_; intro v4 w4 hown4 hgrow4)
          have B5 : Hid (Below w.heap.size w (wr.alloc (.cells #[.int .i64 (sid + N), .int .i64 spt, .slice A2 m c2] 33))) := Lib.hid ((HB.out.trans (B4.out.mono LOW.out)).alloc (Nat.le_trans LOW.out B4.out.size) _)
          have S4 : Hid (SectsOwn w4 w.heap.size v4 (fl ++ [shiftS N (sid, spt, es)])) := Lib.hid (sects_snoc (s := shiftS N (sid, spt, es)) hfq O.out HYL.out HYS.out (by unfold maxLen; omega) HYR.out LOW.out B4.out J5.out hown4 hgrow4)
          have B6 := Lib.hid (B5.out.grown hgrow4 B5.out.size (own_ge O.out))
          clear hown4 hgrow4
          go_roundw
          case measure => simp [intOf]; omega
          case rel => exact ⟨i + 1, by omega, by go_num, by rw [HTS.out]; exact S4.out, B6.out⟩
    · have hlt' : ¬ ((i : Int) < n) := by omega
      have hin : n = i := by omega
      subst hin
      have htk : l.take n = l := List.take_of_length_le (by have := HN.out; omega)
      have HFM : Hid (fl = l.map (shiftS N)) := Lib.hid (by rw [HFL.out, htk])
      have OI := Lib.hid HO.out.in_
      have DONE : Hid (∀ wy : World, Below wr.heap.size wr wy → Below w.heap.size w wy ∧ SectsIn wy wy.heap.size (.slice A7 n c7) fl ∧ SectsIn wy wy.heap.size (.slice A n c) l) := Lib.hid (fun wy hb => ⟨HB.out.trans (hb.mono HB.out.size), (OI.out.below secR_ hb).more secR_ hb.size, (HH.out.below secR_ hb).more secR_ hb.size⟩)
      clear htk
      rcases Nat.eq_zero_or_pos n with hnz | hnp
      · subst hnz
        have HC0 : Hid (chkT fl = 0) := Lib.hid (by
          have hl0 : l = [] := List.eq_nil_of_length_eq_zero HN.out.symm
          rw [chkT, mayT_true (by rw [HFM.out]; exact shift_may HM.out hN0 (fun s hs => by rw [hl0] at hs; simp at hs))]; rfl)
        go_wp2_with fail
        go_loopw [11] (fun s11 wy => s11 = .int .i64 0 ∧ Below wr.heap.size wr wy) (fun _ _ => 0)
        case atStart => exact ⟨rfl, Below.refl _ _⟩
        case round =>
          obtain ⟨rfl, hb⟩ := hrel
          obtain ⟨d1, d2, -⟩ := DONE.out _ hb
          have D1 := Lib.hid d1
          clear d1 hb
          go_wp2_with fail
          refine (hp.check _ fl _ d2).mono ?_
          rintro e w5 ⟨rfl, b5⟩
          rw [HC0.out]
          have B5 := Lib.hid (D1.out.trans (b5.mono D1.out.size))
          clear b5 d2
          go_wp2_with fail
          go_ret
          exact ⟨rfl, B5.out⟩
      · obtain ⟨z, hz⟩ : ∃ z, z = n - 1 := ⟨_, rfl⟩
        have hz1 : (n : Int) - 1 = (z : Int) := by omega
        have hzn : (z : Int) < n := by omega
        have hnp' : (0 : Int) < n := by omega
        have hzl : z < l.length := by have := HN.out; omega
        obtain ⟨b, off, rfl, -⟩ := HH.out.at hzl
        obtain ⟨hg0, -⟩ := sect_cells HH.out hzl
        have hL1 := (HM.out.s z hzl).1
        have hL9 := (HM.out.s z hzl).2.1
        have HLM : Hid (∀ s ∈ l, s.1 ≤ l[z].1) := Lib.hid (fun s hs => by have := last_most HM.out hs (by omega); have e : l.length - 1 = z := by rw [← HN.out, hz]
                                                                          simpa only [e] using this)
        have HLN : Hid (99 < l[z].1 + N → chkT fl = 8) := Lib.hid (fun h => by rw [HFM.out]; exact shift_not (List.getElem_mem hzl) h)
        generalize l[z].1 = L at hg0 hL1 hL9 HLM HLN
        have HNP := Lib.hid hnp'
        have hgn : wr.cell? ⟨b, off + (n - 1) * 3, none⟩ = some (.int .i64 L) := by rw [← hz]; exact hg0
        by_cases hbig : 99 < L + N
        · have HC8 := Lib.hid (HLN.out hbig)
          go_wp2_with fail
          refine (hp.check _ fl _ (DONE.out _ (Below.refl _ _)).2.1).mono ?_
          rintro e w5 ⟨rfl, b5⟩
          rw [HC8.out]
          have B5 := Lib.hid (HB.out.trans (b5.mono HB.out.size))
          clear b5
          go_wp2_with fail
          go_ret
          exact ⟨rfl, B5.out⟩
        · have H9 : Hid (∀ s ∈ l, s.1 + N ≤ 99) := Lib.hid (fun s hs => by have := HLM.out s hs; omega)
          have HC0 : Hid (chkT fl = 0) := Lib.hid (by rw [chkT, mayT_true (by rw [HFM.out]; exact shift_may HM.out hN0 H9.out)]; rfl)
          go_wp2_with fail
          clear hgn hg0 hL1 hL9 hz1 hzn hzl hz hnp hnp' hbig HLN
          obtain ⟨ROOT, hR, hR2⟩ : ∃ ROOT : World → Prop, ROOT wr ∧ Hid (∀ wy, ROOT wy → (Below w.heap.size w wy ∧ SectsIn wy wy.heap.size (.slice A7 n c7) fl ∧ SectsIn wy wy.heap.size (.slice (some ⟨b, off, none⟩) n c) l) ∧ ∀ wz, Below wy.heap.size wy wz → ROOT wz) :=
            ⟨fun wy => Below wr.heap.size wr wy, Below.refl _ _, Lib.hid (fun wy h => ⟨DONE.out wy h, fun wz hz => h.trans (hz.mono h.size)⟩)⟩
          have HR := Lib.hid hR
          clear hR
          go_loopw [11] (fun s11 wy => ∃ a : Nat, a ≤ n ∧ s11 = .int .i64 a ∧ ROOT wy) (fun s11 _ => n - (intOf s11).toNat)
          case atStart => exact ⟨0, by omega, rfl, HR.out⟩
          case round =>
            obtain ⟨a, ha, rfl, hb⟩ := hrel
            have BA := Lib.hid hb
            clear hb
            by_cases hlt3 : a < n
            · have hlt3' : (a : Int) < n := by omega
              have hal : a < l.length := by have := HN.out; omega
              obtain ⟨I, m, C, M, hI1, hI9, hm3⟩ : ∃ (I : Int) (m : Nat), Hid (∀ W, SectsIn W W.heap.size (.slice (some ⟨b, off, none⟩) n c) l → W.cell? ⟨b, off + a * 3, none⟩ = some (.int .i64 I) ∧ ∃ Au cu, W.cell? ⟨b, off + a * 3 + 2, none⟩ = some (.slice Au m cu)) ∧
                  Hid (∀ e : Nat, e < m → nextE7 l I (e : Int) = 0 ∧ nextE7 fl (I + N) (e : Int) = 0 ∧ nextJ7 fl (I + N) (e : Int) = shiftJ N (nextJ7 l I (e : Int)) ∧ (nextJ7 l I (e : Int)).1 ≤ 99) ∧ 1 ≤ I ∧ I ≤ 99 ∧ m ≤ 3 :=
                ⟨l[a].1, l[a].2.2.length, Lib.hid (fun W h => by obtain ⟨a1, _, Au, cu, a2, _⟩ := sect_cells h hal; exact ⟨a1, Au, cu, a2⟩), Lib.hid (fun e he => by
                  obtain ⟨e1, e2, e3⟩ := shift_next HM.out hN0 H9.out hal he
                  rw [HFM.out]
                  refine ⟨e1, e2, e3, ?_⟩
                  rw [(next_mem HM.out hal he).2, List.getD_eq_getElem?_getD, List.getElem?_eq_getElem he]
                  exact join_small HM.out hal he), (HM.out.s a hal).1, (HM.out.s a hal).2.1, shaped_few (HM.out.s a hal).2.2⟩
              clear hal
              go_wp2_with fail
              go_loopw [12] (fun s12 wy => ∃ e : Nat, e ≤ m ∧ s12 = .int .i64 e ∧ ROOT wy) (fun s12 _ => m - (intOf s12).toNat)
              case atStart => exact ⟨0, by omega, rfl, BA.out⟩
              case round =>
                obtain ⟨e, he, rfl, hroot⟩ := hrel
                have RT := Lib.hid hroot
                obtain ⟨⟨hb, hs1, hs2⟩, hgo⟩ := hR2.out _ hroot
                have GO := Lib.hid hgo
                clear hroot hgo
                have F1 := Lib.hid hs1
                have L1 := Lib.hid hs2
                clear hb hs1
                obtain ⟨hg0, Au, cu, hg2⟩ := C.out wr hs2
                clear hs2
                by_cases hlt4 : e < m
                · have hlt4' : (e : Int) < m := by omega
                  obtain ⟨m1, m2, m3, m4⟩ := M.out e hlt4
                  have M1 := Lib.hid m1
                  have M2 := Lib.hid m2
                  have M3 := Lib.hid m3
                  clear m1 m2 m3
                  go_wp2_with fail
                  refine (hp.next _ l I e wr L1.out).mono ?_
                  rintro o w5 ⟨rfl, b5⟩
                  rw [M1.out]
                  generalize nextJ7 l I (e : Int) = J at M3 m4 ⊢
                  obtain ⟨jx, jy⟩ := J
                  dsimp only at m4 ⊢
                  have hy0 := heap_alloc_self w5 (.cells #[.int .i64 jx, .int .i64 jy] 25)
                  have hyb := below_new w5 (.cells #[.int .i64 jx, .int .i64 jy] 25)
                  obtain ⟨q5, hq⟩ : ∃ q5, q5 = w5.alloc (.cells #[.int .i64 jx, .int .i64 jy] 25) := ⟨_, rfl⟩
                  rw [← hq] at hy0 hyb
                  clear hg0 hg2
                  go_upto_region 26 with fail
                  rw [← hq]
                  have bb := b5.trans (hyb.mono b5.size)
                  have B6 := Lib.hid bb
                  have F6 := Lib.hid ((F1.out.below secR_ bb).more secR_ bb.size)
                  have L6 := Lib.hid ((L1.out.below secR_ bb).more secR_ bb.size)
                  have X6 := Lib.hid hy0
                  generalize w5.heap.size = p13 at X6 ⊢
                  clear hy0 hyb hq b5 bb
                  obtain ⟨hg0, -⟩ := C.out q5 L6.out
                  go_wp2_with fail
                  refine (hp.next _ fl (I + N) e q5 F6.out).mono ?_
                  rintro o w7 ⟨rfl, b7⟩
                  rw [M2.out, M3.out]
                  obtain ⟨kx, hkx, hky⟩ : ∃ kx : Int, shiftJ N (jx, jy) = (kx, jy) ∧ ((0 < jx ∧ kx = jx + N) ∨ (¬ 0 < jx ∧ kx = jx)) := by
                    by_cases h : 0 < jx
                    · exact ⟨jx + N, by rw [shiftJ, if_pos h], .inl ⟨h, rfl⟩⟩
                    · exact ⟨jx, by rw [shiftJ, if_neg h], .inr ⟨h, rfl⟩⟩
                  rw [hkx]
                  dsimp only
                  have hy0 := heap_alloc_self w7 (.cells #[.int .i64 kx, .int .i64 jy] 25)
                  have hyb := below_new w7 (.cells #[.int .i64 kx, .int .i64 jy] 25)
                  obtain ⟨q7, hq⟩ : ∃ q7, q7 = w7.alloc (.cells #[.int .i64 kx, .int .i64 jy] 25) := ⟨_, rfl⟩
                  rw [← hq] at hy0 hyb
                  clear hg0 hkx
                  have HKY := Lib.hid hky
                  clear hky
                  go_upto_region 27 with fail
                  rw [← hq]
                  have bb := b7.trans (hyb.mono b7.size)
                  have B8 := Lib.hid (B6.out.trans (bb.mono B6.out.size))
                  have F8 := Lib.hid ((F6.out.below secR_ bb).more secR_ bb.size)
                  have L8 := Lib.hid ((L6.out.below secR_ bb).more secR_ bb.size)
                  have X8 := Lib.hid ((bb.block _ (heap_lt X6.out)).trans X6.out)
                  have Y8 := Lib.hid hy0
                  generalize w7.heap.size = p15 at Y8 ⊢
                  clear hy0 hyb hq b7 bb
                  obtain ⟨k0, k1⟩ := cell2_of X8.out
                  obtain ⟨n0, n1⟩ := cell2_of Y8.out
                  rcases HKY.out with ⟨h0, rfl⟩ | ⟨h0, rfl⟩
                  · have hA : (jx == 0) = false := by simp; omega
                    have hB : (jx + N == 0) = false := by simp; omega
                    go_wp2_with fail
                    go_roundw
                    case measure => simp [intOf]; omega
                    case rel => exact ⟨e + 1, by omega, by go_num, GO.out _ B8.out⟩
                  · go_wp2_with fail
                    go_roundw
                    case measure => simp [intOf]; omega
                    case rel => exact ⟨e + 1, by omega, by go_num, GO.out _ B8.out⟩
                · have hlt4' : ¬ ((e : Int) < m) := by omega
                  go_wp2_with fail
                  go_roundw
                  case measure => simp [intOf]; omega
                  case rel => exact ⟨a + 1, by omega, by go_num, RT.out⟩
            · have hlt3' : ¬ ((a : Int) < n) := by omega
              obtain ⟨⟨d1, d2, -⟩, -⟩ := hR2.out _ BA.out
              have D1 := Lib.hid d1
              clear d1
              go_wp2_with fail
              refine (hp.check _ fl _ d2).mono ?_
              rintro e w5 ⟨rfl, b5⟩
              rw [HC0.out]
              have B5 := Lib.hid (D1.out.trans (b5.mono D1.out.size))
              clear b5 d2
              go_wp2_with fail
              go_ret
              exact ⟨rfl, B5.out⟩
end Go.Proofs.Ytnhglgpmmipjaaa
