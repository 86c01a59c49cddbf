/-
  The statement TrackFewer's text returns true.
  Conditions: none.
-/
import Derived.Test.YtnhglgpmmipjaaaTrkSet
set_option linter.unusedVariables false
set_option linter.unusedSimpArgs false
set_option maxRecDepth 100000
namespace Go.Proofs.Ytnhglgpmmipjaaa
open Go.RowKit

theorem below_set2' {B b : Nat} {w W : World} {j k : Nat} {x y : Value} (h : Below B w W) (hb : B ≤ b) : Below B w ((W.setCell ⟨b, j, none⟩ x).setCell ⟨b, k, none⟩ y) := below_set (below_set h hb j x) hb k y

set_option maxHeartbeats 4000000 in
theorem walk_fewer (hp : TrkSaid) (v : Value) (l : List Sec) (x : Int) (hx0 : 0 ≤ x) (hx1 : x < 256) (w : World) (h : SectsIn w w.heap.size v l) :
    Calls Try.prog 8 #[v, .int .u8 x] w fun e w' => e = .returned (.bool true) ∧ Below w.heap.size w w' := by
  have H := Lib.hid h
  obtain ⟨A, c, rfl, -, -⟩ := h.slice
  obtain ⟨n, hn⟩ : ∃ n, n = l.length := ⟨_, rfl⟩
  have HN := Lib.hid hn
  rw [← hn] at H ⊢
  clear h hn
  obtain ⟨i0, hi, hz0, hz1, hz2⟩ := info_parts infoSec
  have I0 := Lib.hid hi
  have I1 := Lib.hid hz0
  have I2 := Lib.hid hz1
  have I3 := Lib.hid hz2
  clear hi hz0 hz1 hz2
  go_enter Try.func8, Try.ntmps8
  go_wp2_with fail
  refine (alive7 hp w).mono ?_
  rintro e w1 ⟨rfl, b1⟩
  have B1 := Lib.hid b1
  have H1 := Lib.hid ((H.out.below secR_ b1).more secR_ b1.size)
  clear b1
  go_wp2_with fail
  refine (rgreat_any _ l w1 H1.out).mono ?_
  rintro e w' ⟨⟨g, rfl, hg⟩, hw'⟩
  obtain rfl : w1 = w' := hw'.symm
  cases g with
  | true =>
    go_wp2_with fail
    go_ret
    exact ⟨rfl, B1.out⟩
  | false =>
  clear hg
  go_wp2_with fail
  refine (hp.check _ l w1 H1.out).mono ?_
  rintro e w2 ⟨rfl, b2⟩
  have B2 := Lib.hid (B1.out.trans (b2.mono B1.out.size))
  clear b2 H1
  obtain ⟨E, hE⟩ : ∃ E, E = chkT l := ⟨_, rfl⟩
  rw [← hE]
  by_cases h0 : E = 0
  case neg =>
    have hEb : (E != 0) = true := by simpa using h0
    clear hE h0
    go_wp2_with fail
    go_ret
    exact ⟨rfl, B2.out⟩
  subst h0
  have HM := Lib.hid (chk_may hE.symm)
  have hn16 : n ≤ 16 := by rw [HN.out]; exact HM.out.n
  clear hE
  by_cases hnz : n = 0
  · subst hnz
    go_wp2_with fail
    go_ret
    exact ⟨rfl, B2.out⟩
  have hn0 : ((n : Int) == 0) = false := by simpa using hnz
  have hn1 : ¬ (n : Int) = 0 := by omega
  obtain ⟨r, hr, hrn⟩ : ∃ r : Nat, x.tmod (n : Int) = (r : Int) ∧ r < n := by
    obtain ⟨X, rfl⟩ : ∃ X : Nat, x = (X : Int) := ⟨x.toNat, by omega⟩
    exact ⟨X % n, rfl, Nat.mod_lt _ (by omega)⟩
  have hrn' : (r : Int) < n := by omega
  have hrl : r < l.length := by have := HN.out; omega
  have HH2 := Lib.hid ((H.out.below secR_ B2.out).more secR_ B2.out.size)
  obtain ⟨b, off, rfl, -⟩ := HH2.out.at hrl
  obtain ⟨hg0, -⟩ := sect_cells HH2.out hrl
  generalize l[r].1 = G at hg0
  go_wp2_with fail
  clear hn0 hn1 hr hrn hrn' hrl hg0 hnz
  have HN16 := Lib.hid hn16
  go_loopw [7, 8] (fun s7 s8 wr => ∃ i : Nat, i ≤ n ∧ s8 = .int .i64 i ∧ SectsOwn wr w.heap.size s7 (fewer G (l.take i)) ∧ Below w.heap.size w wr) (fun _ s8 _ => n - (intOf s8).toNat)
  case atStart => exact ⟨0, by omega, rfl, ListOwn.nil_, B2.out⟩
  case round =>
    obtain ⟨i, hi, rfl, ho, hb⟩ := hrel
    have HB := Lib.hid hb
    have HO := Lib.hid ho
    have HH := Lib.hid ((H.out.below secR_ hb).more secR_ hb.size)
    obtain ⟨fl, hfl⟩ : ∃ fl, fl = fewer G (l.take i) := ⟨_, rfl⟩
    rw [← hfl] at ho HO
    have HFL := Lib.hid hfl
    obtain ⟨A7, c7, rfl⟩ := ho.slice
    clear hb hfl
    by_cases hlt : i < n
    · have hlt' : (i : Int) < n := by omega
      have hls : i < l.length := by have := HN.out; omega
      have HTS : Hid (fewer G (l.take (i + 1)) = if l[i].1 = G then fl else fl ++ [wiped G l[i]]) := Lib.hid (by rw [List.take_add_one, List.getElem?_eq_getElem hls, HFL.out]; exact fewer_append G _ _)
      have HFI : Hid (l[i].2.2.length ≤ 3) := Lib.hid (shaped_few (HM.out.s i hls).2.2)
      have HFQ : Hid (fl.length ≤ 16) := Lib.hid (by have := fewer_length G (l.take i); rw [HFL.out]; rw [List.length_take] at this; omega)
      obtain ⟨hg0, hg1, Au, cu, hg2, hu⟩ := sect_cells HH.out hls
      generalize l[i] = s at HTS HFI hg0 hg1 hg2 hu
      obtain ⟨sid, spt, es⟩ := s
      dsimp only at HTS HFI hg0 hg1 hg2 hu
      by_cases hG : sid = G
      · subst hG
        have HT1 := Lib.hid (HTS.out.trans (if_pos rfl))
        go_wp2_with fail
        go_roundw
        case measure => simp [intOf]; omega
        case rel => exact ⟨i + 1, by omega, by go_num, by rw [HT1.out]; exact HO.out, HB.out⟩
      · have HT1 := Lib.hid (HTS.out.trans (if_neg hG))
        have hGb : (sid == G) = false := by simpa using hG
        obtain ⟨m, hm⟩ : ∃ m, m = es.length := ⟨_, rfl⟩
        have HMM := Lib.hid hm
        rw [← hm] at hg2 hu HFI
        have HSV : Hid (SecV wr wr.heap.size (.agg #[.int .i64 sid, .int .i64 spt, .slice Au m cu]) (sid, spt, es)) := Lib.hid ⟨_, rfl, hu⟩
        have HGN := Lib.hid hG
        clear hu hm hG
        go_wp2_with fail
        refine (rtwin7_any _ (sid, spt, es) wr HSV.out (by show es.length ≤ 1000; have := HMM.out; have := HFI.out; omega)).mono ?_
        rintro e w3 ⟨u2, rfl, hu2, b3⟩
        obtain ⟨A2, c2, rfl⟩ := hu2.slice
        dsimp only at hu2 ⊢
        rw [← HMM.out] at hu2 ⊢
        have hy0 := heap_alloc_self w3 (.cells #[.int .i64 sid, .int .i64 spt, .slice A2 m c2] 33)
        have hyb := below_new w3 (.cells #[.int .i64 sid, .int .i64 spt, .slice A2 m c2] 33)
        obtain ⟨q3, hq⟩ : ∃ q3, q3 = w3.alloc (.cells #[.int .i64 sid, .int .i64 spt, .slice A2 m c2] 33) := ⟨_, rfl⟩
        rw [← hq] at hy0 hyb
        go_upto_region 11 with fail
        rw [← hq]
        have O3 := Lib.hid (hu2.below joinR hyb)
        have BR := Lib.hid (b3.trans (hyb.mono b3.size))
        have X3 := Lib.hid hy0
        have HP9 := Lib.hid (show wr.heap.size ≤ w3.heap.size from b3.size)
        have LOW := Lib.hid HB.out.size
        generalize w3.heap.size = p9 at X3 HP9 ⊢
        clear hy0 hyb hq hu2 b3 hg0 hg1 hg2
        have hfi := HFI.out
        go_wp2_with fail
        go_loopw [10] (fun s10 wy => ∃ k : Nat, k ≤ m ∧ s10 = .int .i64 k ∧ JoinsOwn wy wr.heap.size (.slice A2 m c2) (part7 (wipe G) es k) ∧ wy.heap[p9]? = some (.cells #[.int .i64 sid, .int .i64 spt, .slice A2 m c2] 33 (0, 0)) ∧ Below wr.heap.size wr wy) (fun s10 _ => m - (intOf s10).toNat)
        case atStart => exact ⟨0, by omega, rfl, by rw [part7_zero]; exact O3.out, X3.out, BR.out⟩
        case round =>
          obtain ⟨k, hk, rfl, hj, hx, hb⟩ := hrel
          have X4 := Lib.hid hx
          have J4 := Lib.hid hj
          have B4 := Lib.hid hb
          obtain ⟨k0, k1, k2⟩ := cell3_of hx
          have f9 := frozen2_of hx
          clear hx hb
          by_cases hlt2 : k < m
          · have hlt2' : (k : Int) < m := by omega
            have hke : k < es.length := by have := HMM.out; omega
            have hpl : (part7 (wipe G) es k).length = es.length := part7_length _ _ (by omega)
            obtain ⟨g, cur, rfl, hlo, hc, hc0, hc1⟩ := joins_own_at hj (by rw [hpl]; exact hke)
            rw [part7_at _ _ hke] at hc0 hc1
            have HPN := Lib.hid (part7_next (wipe G) es hke)
            have HPS := Lib.hid (part7_same (wipe G) es hke)
            have HW : Hid (wipe G es[k] = if es[k].1 = G then (0, 0) else es[k]) := Lib.hid rfl
            have fr := frozen2_of hc
            have HNG : Hid (p9 ≠ g) := Lib.hid (fun e => by subst e; have h1 := X4.out; rw [hc] at h1; cases h1)
            have HLO := Lib.hid hlo
            have HPL : Hid ((part7 (wipe G) es k).length = m) := Lib.hid (hpl.trans HMM.out.symm)
            have HKP : Hid (k < (part7 (wipe G) es k).length) := Lib.hid (by rw [hpl]; exact hke)
            generalize es[k] = j at hc0 hc1 HPN HPS HW
            obtain ⟨jx, jy⟩ := j
            dsimp only at hc0 hc1 HW
            clear hj hc hlo hpl
            by_cases hz : jx = G
            · subst hz
              have hf0 := fr (k * 2)
              have hf1 := fr (k * 2 + 1)
              clear fr f9
              go_wp2_with fail
              go_roundw
              case measure => simp [intOf]; omega
              case rel => exact ⟨k + 1, by omega, by go_num, by rw [HPN.out, HW.out, if_pos rfl]; exact joins_set2 J4.out HPL.out HKP.out, ((heap_setFar _ g (k * 2 + 1) p9 _ HNG.out).trans (heap_setFar _ g (k * 2) p9 _ HNG.out)).trans X4.out, below_set2' B4.out HLO.out⟩
            · have hzb : (jx == G) = false := by simpa using hz
              have HPS1 := Lib.hid (HPS.out (HW.out.trans (if_neg hz)))
              clear fr f9 hz
              go_wp2_with fail
              go_roundw
              case measure => simp [intOf]; omega
              case rel => exact ⟨k + 1, by omega, by go_num, by rw [HPS1.out]; exact J4.out, X4.out, B4.out⟩
          · have hlt2' : ¬ ((k : Int) < m) := by omega
            have hkm : k = es.length := by have := HMM.out; omega
            rw [hkm, part7_all] at hj
            have J5 := Lib.hid hj
            obtain ⟨yss, hown, hyl, hm, hys, hyr⟩ := HO.out
            have O := Lib.hid hown
            have HYL := Lib.hid hyl
            have HYS := Lib.hid hys
            have HYR := Lib.hid hyr
            have hfq := HFQ.out
            clear hown hm hyl hys hyr hj hkm f9
            go_wp2_with ((with_reducible show wpList _ _ _ (⟨some 81, _, _, _, _, _⟩ :: _) _ _); refine wpList_append_list rfl (.tmp 78) (.tmp 80) _ rfl Try.underlying22 I0.out I1.out rfl I2.out (by decide) I3.out (by decide) rfl ((owns_below O.out B4.out).alloc _) (m := 1) rfl (news := [.int .i64 sid, .int .i64 spt, .slice A2 m c2]) rfl (fun h => by cases h) (fun a ha j u hj => by cases ha; rw [Addr.add_lit, Nat.zero_add, World.cell?_alloc_new]; simpa using hj) (by simp [Value.oneCell']) (by omega) (by have := LOW.out; have := B4.out.size; simp; omega) ?_; intro v4 w4 hown4 hgrow4)
            have B5 : Hid (Below w.heap.size w (wr.alloc (.cells #[.int .i64 sid, .int .i64 spt, .slice A2 m c2] 33))) := Lib.hid ((HB.out.trans (B4.out.mono LOW.out)).alloc (Nat.le_trans LOW.out B4.out.size) _)
            have S4 : Hid (SectsOwn w4 w.heap.size v4 (fl ++ [wiped G (sid, spt, es)])) := Lib.hid (sects_snoc (s := wiped G (sid, spt, es)) rfl O.out HYL.out HYS.out (by unfold maxLen; omega) HYR.out LOW.out B4.out J5.out hown4 hgrow4)
            have B6 := Lib.hid (B5.out.grown hgrow4 B5.out.size (own_ge O.out))
            clear hown4 hgrow4
            go_roundw
            case measure => simp [intOf]; omega
            case rel => exact ⟨i + 1, by omega, by go_num, by rw [HT1.out]; exact S4.out, B6.out⟩
    · have hlt' : ¬ ((i : Int) < n) := by omega
      have htk : l.take i = l := List.take_of_length_le (by have := HN.out; omega)
      obtain ⟨f1, f2⟩ := fewer_check HM.out G
      have hf1 : chkT fl = 0 := by rw [HFL.out, htk]; exact f1
      have hf2 : findE7 fl G = 6 := by rw [HFL.out, htk]; exact f2
      have F1 := Lib.hid hf1
      have F2 := Lib.hid hf2
      have OI := Lib.hid HO.out.in_
      clear htk f1 f2 hf1 hf2
      go_wp2_with fail
      refine (hp.find _ fl G wr OI.out).mono ?_
      rintro e w3 ⟨u, rfl, hu, b3⟩
      rw [F2.out]
      have B3 := Lib.hid (HB.out.trans (b3.mono HB.out.size))
      have O3 := Lib.hid ((OI.out.below secR_ b3).more secR_ b3.size)
      obtain ⟨A8, c8, rfl⟩ := hu.slice
      generalize findS7 fl G = S
      obtain ⟨fid, fpt, fes⟩ := S
      dsimp only
      clear hu b3
      go_wp2_with fail
      have hyb := below_new w3 (.cells #[.int .i64 fid, .int .i64 fpt, .slice A8 fes.length c8] 33)
      generalize w3.alloc (.cells #[.int .i64 fid, .int .i64 fpt, .slice A8 fes.length c8] 33) = q3 at hyb ⊢
      refine (hp.check _ fl q3 ((O3.out.below secR_ hyb).more secR_ hyb.size)).mono ?_
      rintro e w4 ⟨rfl, b4⟩
      rw [F1.out]
      have B4 := Lib.hid ((B3.out.trans (hyb.mono B3.out.size)).trans (b4.mono (Nat.le_trans B3.out.size hyb.size)))
      clear b4 hyb
      go_wp2_with fail
      go_ret
      exact ⟨rfl, B4.out⟩
end Go.Proofs.Ytnhglgpmmipjaaa
