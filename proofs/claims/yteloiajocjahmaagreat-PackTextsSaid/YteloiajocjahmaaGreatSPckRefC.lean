/-
 The document's own package pack: get, Written.
 Conditions: none.
-/
import Derived.Test.YteloiajocjahmaaGreatSPckRefA
import Derived.Test.YteloiajocjahmaaGreatSPckRefB
import Derived.Test.YteloiajocjahmaaGreatSCodRefGet
set_option linter.unusedVariables false
set_option linter.unusedSimpArgs false
set_option maxRecDepth 100000
namespace Go.Proofs.YteloiajocjahmaaGreat
open Go.RowKit

theorem get_none {b : List UInt8} {L : List Int} {k : Nat} (hL : NumsOk L) (hp : putL L = b.take k) (hk : k < b.length) (he : (getSpec b (k : Int)).2.2 ≠ 0) : ∀ M, NumsOk M → putL M ≠ b := fun M hM e => by
 have hlen : (putL L).length = k := by rw [hp, List.length_take]; omega
 have e1 : putL L ++ b.drop k = putL M ++ [] := by rw [hp, List.take_append_drop, List.append_nil, e]
 obtain ⟨t, ⟨h1, h2⟩ | ⟨h1, h2⟩⟩ := putL_pre L M _ _ hL hM e1
 ·rw [List.append_nil] at h2
  cases t with
  | nil =>
   have := congrArg List.length h2
   rw [putL_nil, List.length_drop] at this
   simp at this
   omega
  | cons z t =>
   rw [putL_cons] at h2
   have hz := hM z (by rw [h1]; exact List.mem_append_right _ (List.mem_cons_self ..))
   have h3 : b = putL L ++ bytesOf z.toNat ++ putL t := by rw [List.append_assoc, ← h2, hp, List.take_append_drop]
   have h4 := getSpec_put (putL L) (putL t) (n := z.toNat) (by omega)
   rw [← h3, hlen] at h4
   rw [h4] at he
   exact he rfl
 ·have h3 := (List.append_eq_nil_iff.1 h2.symm).2
  have := congrArg List.length h3
  rw [List.length_drop] at this
  simp at this
  omega
theorem get_some {b : List UInt8} {L : List Int} {k : Nat} (hL : NumsOk L) (hp : putL L = b.take k) (he : (getSpec b (k : Int)).2.2 = 0) : ∃ n m : Nat, getSpec b (k : Int) = ((n : Int), (m : Int), 0) ∧ k < m ∧ m ≤ b.length ∧ NumsOk (L ++ [(n : Int)]) ∧ putL (L ++ [(n : Int)]) = b.take m := by
 obtain ⟨k', n, e1, h1, h2, h3, h4, -⟩ := getSpec_ok he
 obtain rfl : k = k' := by omega
 have hpos := bytesOf_length_pos n
 refine ⟨n, k + (bytesOf n).length, by rw [h4]; simp, by omega, h1, hL.snoc (by omega), ?_⟩
 rw [putL_snoc, hp, Int.toNat_natCast, List.take_add, h3]
set_option maxHeartbeats 4000000 in
theorem rget12_any (v : Value) (b : List UInt8) (w : World) (h : Txt w w.heap.size v b) (hl : b.length ≤ 10000) :
  Calls Tryz.prog 29 #[v] w fun e w' => ((∃ L A c n, e = .returned (.tuple #[.slice A n c, .bool true]) ∧ n = L.length ∧ n ≤ 10000 ∧ IntsOwn w' w.heap.size (.slice A n c) L ∧ NumsOk L ∧ putL L = b) ∨ (e = .returned (.tuple #[.slice none 0 0, .bool false]) ∧ ∀ L, NumsOk L → putL L ≠ b)) ∧ Below w.heap.size w w' := by
 have HX0 := Lib.hid h
 have HL := Lib.hid hl
 obtain ⟨A0, c0, rfl, -, -, -, -⟩ := h
 obtain ⟨n, hn⟩ : ∃ n, n = b.length := ⟨_, rfl⟩
 have HN := Lib.hid hn
 have HX : Hid (Txt w w.heap.size (.slice A0 n c0) b) := Lib.hid (by rw [hn]; exact HX0.out)
 rw [← hn]
 have hn4 : n ≤ 10000 := by rw [hn]; exact hl
 clear hn HX0 hl
 go_enter Tryz.func29, Tryz.ntmps29
 go_wp2_with fail
 go_loopw [4, 5] (fun s4 s5 wr => ∃ (L : List Int) (A : Option Addr) (c m k : Nat), s5 = .int .i64 k ∧ s4 = .slice A m c ∧ k ≤ n ∧ m ≤ k ∧ m = L.length ∧ NumsOk L ∧ putL L = b.take k ∧ IntsOwn wr w.heap.size (.slice A m c) L ∧ Below w.heap.size w wr) (fun _ s5 _ => n - (intOf s5).toNat)
 case atStart => exact ⟨[], none, 0, 0, 0, by go_num, rfl, by omega, by omega, rfl, (fun z hz => by cases hz), by rw [List.take_zero]; rfl, ListOwn.nil_, Below.refl _ _⟩
 case round =>
  obtain ⟨L, A, c, m, k, rfl, rfl, hk, hmk, hm, hnum, hput, ho, hb⟩ := hrel
  have HM := Lib.hid hm
  have HNUM := Lib.hid hnum
  have HPUT := Lib.hid hput
  have HO := Lib.hid ho
  have BW := Lib.hid hb
  clear hm hnum hput ho hb
  by_cases hlt : k < n
  ·have hlt' : (k : Int) < n := by omega
   have HK : Hid (k < b.length) := Lib.hid (by rw [← HN.out]; exact hlt)
   obtain ⟨N1, N2, E, hg⟩ : ∃ x y z, getSpec b (k : Int) = (x, y, z) := ⟨_, _, _, rfl⟩
   have HG := Lib.hid hg
   clear hg
   go_wp2_with fail
   refine (rget_any _ b k wr ((HX.out.below BW.out).more BW.out.size) (by have := HL.out; omega)).mono ?_
   rintro e w1 ⟨rfl, b1⟩
   rw [HG.out]
   have B1 := Lib.hid (BW.out.trans (b1.mono BW.out.size))
   have O1 := Lib.hid (HO.out.below intR b1)
   clear b1 BW HO
   by_cases he : E = 0
   rotate_left
   ·have d0 : (E != 0) = true := by simpa using he
    have HNO : Hid (∀ M, NumsOk M → putL M ≠ b) := Lib.hid (get_none HNUM.out HPUT.out HK.out (by rw [HG.out]; exact he))
    clear he
    go_wp2_with fail
    refine bodyPost_ret (results_tmp2 rfl _ _ _) rfl ?_
    exact ⟨.inr ⟨rfl, HNO.out⟩, B1.out⟩
   subst he
   have d0 : ((0 : Int) != 0) = false := by decide
   obtain ⟨n1, m1, h1, h2, h3, h4, h5⟩ := get_some HNUM.out HPUT.out (by rw [HG.out])
   rw [HG.out] at h1
   obtain ⟨rfl, rfl⟩ : N1 = (n1 : Int) ∧ N2 = (m1 : Int) := by
    injection h1 with e1 e2
    injection e2 with e2 e3
    exact ⟨e1, e2⟩
   have H4 := Lib.hid h4
   have H5 := Lib.hid h5
   have H3 : Hid (m1 ≤ n) := Lib.hid (by rw [HN.out]; exact h3)
   have H2 := Lib.hid h2
   have KL : Hid (m + 1 = (L ++ [(n1 : Int)]).length) := Lib.hid (by rw [List.length_append, ← HM.out]; rfl)
   clear h1 h2 h3 h4 h5 HG HPUT HNUM
   go_wp2_with ((with_reducible show wpList _ _ _ (⟨some 25, _, _, _, _, _⟩ :: _) _ _); refine wpList_append_ints rfl (.tmp 22) (.tmp 24) rfl (lo := w.heap.size) rfl (O1.out.below intR (below_new _ _)) HM.out rfl (ints_alloc _ [(n1 : Int)] (by simp)) (m + 1) rfl (by omega) (by have := B1.out.size; simp; omega) ?_; intro A5 c5 w5 ho5 hb5 _; have O5 := Lib.hid ho5; have B5 := Lib.hid hb5; clear ho5 hb5)
   go_roundw
   case measure => have := H2.out; simp [intOf]; omega
   case rel => exact ⟨L ++ [(n1 : Int)], A5, c5, m + 1, m1, by go_num, rfl, H3.out, by have := H2.out; omega, KL.out, H4.out, H5.out, O5.out, (B1.out.alloc B1.out.size _).trans B5.out⟩
  ·obtain rfl : n = k := by omega
   have hlt' : ¬ (n : Int) < n := by omega
   have HE : Hid (putL L = b) := Lib.hid (by rw [HPUT.out, HN.out, List.take_length])
   go_wp2_with fail
   refine bodyPost_ret (results_tmp2 rfl _ _ _) rfl ?_
   exact ⟨.inl ⟨L, _, _, _, rfl, HM.out, by omega, HO.out, HNUM.out, HE.out⟩, BW.out⟩
theorem rwritten_any (v : Value) (p : Pl) (w : World) (h : PlanV w w.heap.size v p) (hm : PlanMay p) :
  Calls Tryz.prog 18 #[v] w fun e w' => ∃ u, e = .returned u ∧ TxtOwn w' w.heap.size u (textL p) ∧ Below w.heap.size w w' := by
 have HM := Lib.hid hm
 clear hm
 obtain ⟨A2, c2, A3, c3, A4, c4, A5, c5, n2, n3, n4, n5, rfl, hm2, hm3, hm4, hm5, HCP, HIN, HN⟩ := open_plan h
 have hq0 := heap_alloc_self w (.cells #[.int .i64 p.ver, .int .i64 p.par, .slice A2 n2 c2, .slice A3 n3 c3, .slice A4 n4 c4, .slice A5 n5 c5] 27)
 have hqb := below_new w (.cells #[.int .i64 p.ver, .int .i64 p.par, .slice A2 n2 c2, .slice A3 n3 c3, .slice A4 n4 c4, .slice A5 n5 c5] 27)
 go_enter Tryz.func18, Tryz.ntmps18
 go_upto_region 1 with fail
 generalize w.alloc (.cells #[.int .i64 p.ver, .int .i64 p.par, .slice A2 n2 c2, .slice A3 n3 c3, .slice A4 n4 c4, .slice A5 n5 c5] 27) = q at hq0 hqb ⊢
 have XP := Lib.hid hq0
 have BQ := Lib.hid hqb
 clear hq0 hqb
 obtain ⟨k0, k1, k2, k3, k4, k5⟩ := cell6_of XP.out
 go_wp2_with fail
 refine (rnumbers_any _ p q ⟨_, _, _, _, rfl, (HIN.out.below BQ.out).more BQ.out.size⟩ HM.out).mono ?_
 rintro e w1 ⟨A, c, n, rfl, hn, ho, hb⟩
 have O1 := Lib.hid ho
 have B1 := Lib.hid (BQ.out.trans (hb.mono BQ.out.size))
 clear ho hb hn k0 k1 k2 k3 k4 k5
 go_wp2_with fail
 refine (rput12_any _ (numsP p) w1 (O1.out.in_ intR_cells) (nums_ok HM.out) (by rw [numsP_eq, List.length_cons, List.length_cons]; have := rest_len HM.out; omega)).mono ?_
 rintro e w2 ⟨u, rfl, ho, hb⟩
 have O2 : Hid (TxtOwn w2 w.heap.size u (textL p)) := Lib.hid (TxtOwn.mono ho B1.out.size)
 have B2 := Lib.hid (B1.out.trans (hb.mono B1.out.size))
 clear ho hb
 go_wp2_with fail
 go_ret
 exact ⟨_, rfl, O2.out, B2.out⟩
end Go.Proofs.YteloiajocjahmaaGreat
