/-
  The statement TrackBack's text returns true.
  Conditions: none.
-/
import Derived.Test.YtnhglgpmmipjaaaTrkEq
import Derived.BigQuiet
set_option linter.unusedVariables false
set_option linter.unusedSimpArgs false
set_option maxRecDepth 100000
namespace Go.Proofs.Ytnhglgpmmipjaaa
open Go.RowKit

set_option maxHeartbeats 4000000 in
theorem walk_back (hp : TrkSaid) (v : Value) (l : List Sec) (w : World) (h : SectsIn w w.heap.size v l) :
    Calls Try.prog 6 #[v] w fun e w' => e = .returned (.bool true) ∧ Below w.heap.size w w' := by
  have H := Lib.hid h
  obtain ⟨A, c, rfl, -, -⟩ := h.slice
  obtain ⟨n, hn⟩ : ∃ n, n = l.length := ⟨_, rfl⟩
  have HN := Lib.hid hn
  rw [← hn] at H ⊢
  clear h hn
  obtain ⟨i0, hi, hz0, hz1, hz2⟩ := info_parts infoJoin
  have I0 := Lib.hid hi
  have I1 := Lib.hid hz0
  have I2 := Lib.hid hz1
  have I3 := Lib.hid hz2
  clear hi hz0 hz1 hz2
  go_enter Try.func6, Try.ntmps6
  go_wp2_with fail
  refine (alive7 hp w).mono ?_
  rintro e w1 ⟨rfl, b1⟩
  have B1 := Lib.hid b1
  have H1 := Lib.hid ((H.out.below secR_ b1).more secR_ b1.size)
  clear b1
  go_wp2_with fail
  refine (rgreat_any _ l w1 H1.out).mono ?_
  rintro e w' ⟨⟨g, rfl, hg⟩, hw'⟩
  obtain rfl : w1 = w' := hw'.symm
  cases g with
  | true =>
    go_wp2_with fail
    go_ret
    exact ⟨rfl, B1.out⟩
  | false =>
  clear hg
  go_wp2_with fail
  refine (hp.check _ l w1 H1.out).mono ?_
  rintro e w2 ⟨rfl, b2⟩
  have B2 := Lib.hid (B1.out.trans (b2.mono B1.out.size))
  clear b2 H1
  obtain ⟨E, hE⟩ : ∃ E, E = chkT l := ⟨_, rfl⟩
  rw [← hE]
  by_cases h0 : E = 0
  case neg =>
    have hEb : (E != 0) = true := by simpa using h0
    clear hE h0
    go_wp2_with fail
    go_ret
    exact ⟨rfl, B2.out⟩
  subst h0
  have HM := Lib.hid (chk_may hE.symm)
  have HN16 : Hid (n ≤ 16) := Lib.hid (by rw [HN.out]; exact HM.out.n)
  clear hE
  go_wp2_with fail
  go_loopw [4, 5] (fun s4 s5 wr => ∃ (i : Nat) (ls : List Jn), i ≤ n ∧ s5 = .int .i64 i ∧ JoinsOwn wr w.heap.size s4 ls ∧ Led l i 0 ls ∧ ls.length ≤ 3 * i ∧ Below w.heap.size w wr) (fun _ s5 _ => n - (intOf s5).toNat)
  case atStart => exact ⟨0, [], by omega, rfl, ListOwn.nil_, fun x hx => absurd hx (by simp), by simp, B2.out⟩
  case round =>
    obtain ⟨i, ls, hi, rfl, ho, hled, hll, hb⟩ := hrel
    have HB := Lib.hid hb
    have HO := Lib.hid ho
    have HLED := Lib.hid hled
    have HLL := Lib.hid hll
    have hn16 := HN16.out
    obtain ⟨A4, c4, rfl⟩ := ho.slice
    clear hb ho hled
    by_cases hlt : i < n
    · have hlt' : (i : Int) < n := by omega
      have hls : i < l.length := by have := HN.out; omega
      obtain ⟨b, off, rfl, -⟩ := ((H.out.below secR_ HB.out).more secR_ HB.out.size).at hls
      obtain ⟨I, m, C, M, L, hm3⟩ : ∃ (I : Int) (m : Nat), Hid (∀ W, SectsIn W W.heap.size (.slice (some ⟨b, off, none⟩) n c) l → W.cell? ⟨b, off + i * 3, none⟩ = some (.int .i64 I) ∧ ∃ Au cu, W.cell? ⟨b, off + i * 3 + 2, none⟩ = some (.slice Au m cu)) ∧
          Hid (∀ e : Nat, e < m → nextE7 l I (e : Int) = 0 ∧ (nextJ7 l I (e : Int) = (0, 0) ∨ (nextJ7 l I (e : Int) ≠ (0, 0) ∧ nextE7 l (nextJ7 l I (e : Int)).1 (nextJ7 l I (e : Int)).2 = 0 ∧ nextJ7 l (nextJ7 l I (e : Int)).1 (nextJ7 l I (e : Int)).2 = (I, (e : Int)) ∧ nextJ7 l I (e : Int) ≠ (I, (e : Int))))) ∧
          Hid (∀ (e : Nat) (ls : List Jn) (J : Jn), Led l i e ls → nextJ7 l J.1 J.2 = (I, (e : Int)) → (∀ x ∈ ls, x ≠ J) ∧ Led l i (e + 1) (ls ++ [J])) ∧ m ≤ 3 :=
        ⟨l[i].1, l[i].2.2.length, Lib.hid (fun W h => by obtain ⟨a1, _, Au, cu, a2, _⟩ := sect_cells h hls; exact ⟨a1, Au, cu, a2⟩), Lib.hid (fun e he => back_of HM.out hls he), Lib.hid (fun e ls J h1 h2 => ⟨led_not HM.out h1 hls h2, led_snoc h1 hls h2⟩), shaped_few (HM.out.s i hls).2.2⟩
      have HM3 := Lib.hid hm3
      clear hls
      go_wp2_with fail
      go_loopw [4, 6] (fun s4 s6 wr => ∃ (e : Nat) (ls : List Jn), e ≤ m ∧ s6 = .int .i64 e ∧ JoinsOwn wr w.heap.size s4 ls ∧ Led l i e ls ∧ ls.length ≤ 3 * i + e ∧ Below w.heap.size w wr) (fun _ s6 _ => m - (intOf s6).toNat)
      case atStart => exact ⟨0, ls, by omega, rfl, HO.out, HLED.out, by omega, HB.out⟩
      case round =>
        clear HO HLED HLL hll
        obtain ⟨e, ls, he, rfl, ho, hled, hll, hb⟩ := hrel
        have BB := Lib.hid hb
        have OB := Lib.hid ho
        have LB := Lib.hid hled
        have HLL := Lib.hid hll
        obtain ⟨A5, c5, rfl⟩ := ho.slice
        have HH := Lib.hid ((H.out.below secR_ BB.out).more secR_ BB.out.size)
        obtain ⟨hg0, Au, cu, hg2⟩ := C.out wr HH.out
        clear hb ho hled hll
        by_cases hlt2 : e < m
        · have hlt2' : (e : Int) < m := by omega
          obtain ⟨m1, m2⟩ := M.out e hlt2
          have M1 := Lib.hid m1
          have M2 := Lib.hid m2
          clear m1 m2
          go_wp2_with fail
          refine (hp.next _ l I e wr HH.out).mono ?_
          rintro o w3 ⟨rfl, b3⟩
          rw [M1.out]
          generalize nextJ7 l I (e : Int) = J at M2 ⊢
          obtain ⟨jx, jy⟩ := J
          dsimp only at M2 ⊢
          have B3 := Lib.hid (BB.out.trans (b3.mono BB.out.size))
          have O3 := Lib.hid (OB.out.below joinR b3)
          clear b3 hg0 hg2 M1 OB HH
          have hy0 := heap_alloc_self w3 (.cells #[.int .i64 jx, .int .i64 jy] 25)
          have hyb := below_new w3 (.cells #[.int .i64 jx, .int .i64 jy] 25)
          obtain ⟨q3, hq⟩ : ∃ q3, q3 = w3.alloc (.cells #[.int .i64 jx, .int .i64 jy] 25) := ⟨_, rfl⟩
          rw [← hq] at hy0 hyb
          go_upto_region 12 with fail
          rw [← hq]
          have B4 := Lib.hid (B3.out.trans (hyb.mono B3.out.size))
          have O4 := Lib.hid (O3.out.below joinR hyb)
          have X4 := Lib.hid hy0
          have HP7 := Lib.hid (show w.heap.size ≤ w3.heap.size from B3.out.size)
          generalize w3.heap.size = p7 at X4 HP7 ⊢
          clear hy0 hyb hq O3
          obtain ⟨k0, k1⟩ := cell2_of X4.out
          by_cases hz : (jx, jy) = ((0, 0) : Jn)
          · injection hz with z0 z1
            subst z0 z1
            go_wp2_with fail
            go_roundw
            case measure => simp [intOf]; omega
            case rel => exact ⟨e + 1, ls, by omega, by go_num, O4.out, led_next LB.out, by have := HLL.out; omega, B4.out⟩
          · obtain ⟨-, n1, n2, n3⟩ := M2.out.resolve_left hz
            have N1 := Lib.hid n1
            have N2 := Lib.hid n2
            have hjz : ∀ w' : World, (Op.equalIn 10000 25 (.agg #[.int .i64 jx, .int .i64 jy]) (.agg #[.int .i64 0, .int .i64 0])).run Try.prog w' = .ok false w' := fun w' => join_ne (fun h => hz (by rw [h.1, h.2])) w'
            have HBK : Hid (∀ w' : World, (Op.equalIn 10000 25 (.agg #[.int .i64 I, .int .i64 (e : Int)]) (.agg #[.int .i64 jx, .int .i64 jy])).run Try.prog w' = .ok false w') := Lib.hid (fun w' => join_ne (fun h => n3 (by rw [h.1, h.2])) w')
            have HSF : Hid (∀ w' : World, (Op.equalIn 10000 25 (.agg #[.int .i64 I, .int .i64 (e : Int)]) (.agg #[.int .i64 I, .int .i64 (e : Int)])).run Try.prog w' = .ok true w') := Lib.hid (fun w' => join_self _ _ w')
            clear n1 n2 n3 hz M2
            go_wp2_with fail
            clear hjz
            all_goals
              refine (hp.next _ l jx jy q3 ((H.out.below secR_ B4.out).more secR_ B4.out.size)).mono ?_
              rintro o w5 ⟨rfl, b5⟩
              rw [N1.out, N2.out]
              dsimp only
              have B5 := Lib.hid (B4.out.trans (b5.mono B4.out.size))
              have O5 := Lib.hid (O4.out.below joinR b5)
              have X5 := Lib.hid ((b5.block _ (heap_lt X4.out)).trans X4.out)
              clear b5 k0 k1
              have hy0 := heap_alloc_self w5 (.cells #[.int .i64 I, .int .i64 (e : Int)] 25)
              have hyb := below_new w5 (.cells #[.int .i64 I, .int .i64 (e : Int)] 25)
              obtain ⟨q5, hq⟩ : ∃ q5, q5 = w5.alloc (.cells #[.int .i64 I, .int .i64 (e : Int)] 25) := ⟨_, rfl⟩
              rw [← hq] at hy0 hyb
              go_upto_region 16 with fail
              rw [← hq]
              have B6 := Lib.hid (B5.out.trans (hyb.mono B5.out.size))
              have O6 := Lib.hid (O5.out.below joinR hyb)
              have X6 := Lib.hid ((hyb.block _ (heap_lt X5.out)).trans X5.out)
              have Y6 := Lib.hid hy0
              generalize w5.heap.size = p9 at Y6 ⊢
              clear hy0 hyb hq O4 O5 X4 X5
              obtain ⟨k0, k1⟩ := cell2_of X6.out
              obtain ⟨m0, m1⟩ := cell2_of Y6.out
              obtain ⟨hg0, -⟩ := C.out q5 ((H.out.below secR_ B6.out).more secR_ B6.out.size)
              have hbk := HBK.out
              have hsf := HSF.out
              go_quiet (fail)
              have hdr : Below q5.heap.size q5 (q5.drewN nq) := below_drewK (Below.refl _ _) nq
              generalize q5.drewN nq = q7 at hdr ⊢
              have B7 := Lib.hid (B6.out.trans (hdr.mono B6.out.size))
              have O7 := Lib.hid (O6.out.below joinR hdr)
              have X7 := Lib.hid ((hdr.block _ (heap_lt X6.out)).trans X6.out)
              clear hdr O6 X6 Y6 k0 k1 m0 m1 hg0 hbk hsf HBK HSF
              obtain ⟨hnot, hsn⟩ := L.out e ls (jx, jy) LB.out N2.out
              have HNOT := Lib.hid hnot
              have HSN := Lib.hid hsn
              have HL48 : Hid (ls.length ≤ 100) := Lib.hid (by have := HLL.out; have := HN16.out; omega)
              clear hnot hsn N1 N2
              go_wp2_with fail
              go_loopw [11] (fun s11 wr => ∃ k : Nat, k ≤ ls.length ∧ s11 = .int .i64 k ∧ JoinsOwn wr w.heap.size (.slice A5 ls.length c5) ls ∧ wr.heap[p7]? = some (.cells #[.int .i64 jx, .int .i64 jy] 25 (0, 0)) ∧ Below w.heap.size w wr) (fun s11 _ => ls.length - (intOf s11).toNat)
              case atStart => exact ⟨0, by omega, rfl, O7.out, X7.out, B7.out⟩
              case round =>
                obtain ⟨k, hk, rfl, ho, hx, hb⟩ := hrel
                have O8 := Lib.hid ho
                have X8 := Lib.hid hx
                have B8 := Lib.hid hb
                obtain ⟨k0, k1⟩ := cell2_of hx
                clear hb hx
                by_cases hlt3 : k < ls.length
                · have hlt3' : (k : Int) < (ls.length : Int) := by omega
                  have hl48 := HL48.out
                  obtain ⟨b8, off8, rfl, -, hc0, hc1⟩ := (ho.in_ joinR_cells).at hlt3
                  have hmem := HNOT.out _ (List.getElem_mem hlt3)
                  generalize ls[k] = x at hc0 hc1 hmem
                  obtain ⟨x1, x2⟩ := x
                  dsimp only at hc0 hc1
                  have hg0 : wr.cell? ⟨b8, off8 + k * 2, none⟩ = some (.int .i64 x1) := hc0
                  have hg1 : wr.cell? ⟨b8, off8 + k * 2 + 1, none⟩ = some (.int .i64 x2) := hc1
                  have hne : ∀ w' : World, (Op.equalIn 10000 25 (.agg #[.int .i64 x1, .int .i64 x2]) (.agg #[.int .i64 jx, .int .i64 jy])).run Try.prog w' = .ok false w' := fun w' => join_ne (fun h => hmem (by rw [h.1, h.2])) w'
                  clear hc0 hc1 hmem ho
                  go_upto_region 21 with fail
                  go_quiet (fail)
                  have hdr : Below wr.heap.size wr (wr.drewN nq) := below_drewK (Below.refl _ _) nq
                  generalize wr.drewN nq = q9 at hdr ⊢
                  have B9 := Lib.hid (B8.out.trans (hdr.mono B8.out.size))
                  have O9 := Lib.hid (O8.out.below joinR hdr)
                  have X9 := Lib.hid ((hdr.block _ (heap_lt X8.out)).trans X8.out)
                  clear hdr hne hg0 hg1
                  go_wp2_with fail
                  go_roundw
                  case measure => simp [intOf]; omega
                  case rel => exact ⟨k + 1, by omega, by go_num, O9.out, X9.out, B9.out⟩
                · have hlt3' : ¬ ((k : Int) < (ls.length : Int)) := by omega
                  obtain ⟨yss, hown, hyl, hm, hys, hyr⟩ := ho
                  have O := Lib.hid hown
                  have hl48 := HL48.out
                  clear hown hm
                  go_wp2_with ((with_reducible show wpList _ _ _ (⟨some 99, _, _, _, _, _⟩ :: _) _ _); refine wpList_append_list rfl (.tmp 96) (.tmp 98) _ rfl Try.underlying31 I0.out I1.out rfl I2.out (by decide) I3.out (by decide) rfl (O.out.alloc _) (m := 1) rfl (news := [.int .i64 jx, .int .i64 jy]) rfl (fun h => by cases h) (fun a ha j u hj => by cases ha; rw [Addr.add_lit, Nat.zero_add, World.cell?_alloc_new]; simpa using hj) (by simp [Value.oneCell']) (by omega) (by have := B8.out.size; simp; omega) ?_; intro v4 w4 hown4 hgrow4)
                  have S4 : Hid (JoinsOwn w4 w.heap.size v4 (ls ++ [(jx, jy)])) := Lib.hid (ListOwn.snoc joinR (fun _ h _ _ => h) O.out hyl hys rfl (by unfold maxLen; omega) hyr (Below.refl _ _) ⟨rfl, rfl⟩ hown4 hgrow4)
                  have B8a : Hid (Below w.heap.size w (wr.alloc (.cells #[.int .i64 jx, .int .i64 jy] 25))) := Lib.hid (B8.out.alloc B8.out.size _)
                  have B9 := Lib.hid (B8a.out.grown hgrow4 B8a.out.size (own_ge O.out))
                  clear hown4 hgrow4
                  go_roundw
                  case measure => simp [intOf]; omega
                  case rel => exact ⟨e + 1, ls ++ [(jx, jy)], by omega, by go_num, S4.out, HSN.out, by have := HLL.out; simp; omega, B9.out⟩
        · have hlt2' : ¬ ((e : Int) < m) := by omega
          obtain rfl : e = m := by omega
          go_wp2_with fail
          go_roundw
          case measure => simp [intOf]; omega
          case rel => exact ⟨i + 1, ls, by omega, by go_num, OB.out, led_row LB.out, by have := HLL.out; omega, BB.out⟩
    · have hlt' : ¬ ((i : Int) < n) := by omega
      go_wp2_with fail
      go_ret
      exact ⟨rfl, HB.out⟩
end Go.Proofs.Ytnhglgpmmipjaaa
