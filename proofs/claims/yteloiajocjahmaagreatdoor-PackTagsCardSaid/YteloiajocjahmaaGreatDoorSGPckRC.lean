/-
 The document's own package pack: get, Written.
 Conditions: none.
-/
import Derived.Test.YteloiajocjahmaaGreatDoorSPckRefA
import Derived.Test.YteloiajocjahmaaGreatDoorSPckRefB
import Derived.Test.YteloiajocjahmaaGreatDoorSCodRefGet
import Derived.Test.YteloiajocjahmaaGreatDoorSGPlnRefB
import Derived.Test.YteloiajocjahmaaGreatDoorSGPlnRefC
set_option linter.unusedVariables false
set_option linter.unusedSimpArgs false
set_option maxRecDepth 100000
namespace Go.Proofs.YteloiajocjahmaaGreatDoor
open Go.RowKit

theorem get_none {b : List UInt8} {L : List Int} {k : Nat} (hL : NumsOk L) (hp : putL L = b.take k) (hk : k < b.length) (he : (getSpec b (k : Int)).2.2 ≠ 0) : ∀ M, NumsOk M → putL M ≠ b := fun M hM e => by
 have hlen : (putL L).length = k := by rw [hp, List.length_take]; omega
 have e1 : putL L ++ b.drop k = putL M ++ [] := by rw [hp, List.take_append_drop, List.append_nil, e]
 obtain ⟨t, ⟨h1, h2⟩ | ⟨h1, h2⟩⟩ := putL_pre L M _ _ hL hM e1
 ·rw [List.append_nil] at h2
  cases t with
  | nil =>
   have := congrArg List.length h2
   rw [putL_nil, List.length_drop] at this
   simp at this
   omega
  | cons z t =>
   rw [putL_cons] at h2
   have hz := hM z (by rw [h1]; exact List.mem_append_right _ (List.mem_cons_self ..))
   have h3 : b = putL L ++ bytesOf z.toNat ++ putL t := by rw [List.append_assoc, ← h2, hp, List.take_append_drop]
   have h4 := getSpec_put (putL L) (putL t) (n := z.toNat) (by omega)
   rw [← h3, hlen] at h4
   rw [h4] at he
   exact he rfl
 ·have h3 := (List.append_eq_nil_iff.1 h2.symm).2
  have := congrArg List.length h3
  rw [List.length_drop] at this
  simp at this
  omega
theorem get_some {b : List UInt8} {L : List Int} {k : Nat} (hL : NumsOk L) (hp : putL L = b.take k) (he : (getSpec b (k : Int)).2.2 = 0) : ∃ n m : Nat, getSpec b (k : Int) = ((n : Int), (m : Int), 0) ∧ k < m ∧ m ≤ b.length ∧ NumsOk (L ++ [(n : Int)]) ∧ putL (L ++ [(n : Int)]) = b.take m := by
 obtain ⟨k', n, e1, h1, h2, h3, h4, -⟩ := getSpec_ok he
 obtain rfl : k = k' := by omega
 have hpos := bytesOf_length_pos n
 refine ⟨n, k + (bytesOf n).length, by rw [h4]; simp, by omega, h1, hL.snoc (by omega), ?_⟩
 rw [putL_snoc, hp, Int.toNat_natCast, List.take_add, h3]
set_option maxHeartbeats 4000000 in
theorem rget12_any (v : Value) (b : List UInt8) (w : World) (h : Txt w w.heap.size v b) (hl : b.length ≤ 10000) :
  Calls Tryz.prog 43 #[v] w fun e w' => ((∃ L A c n, e = .returned (.tuple #[.slice A n c, .bool true]) ∧ n = L.length ∧ n ≤ 10000 ∧ IntsOwn w' w.heap.size (.slice A n c) L ∧ NumsOk L ∧ putL L = b) ∨ (e = .returned (.tuple #[.slice none 0 0, .bool false]) ∧ ∀ L, NumsOk L → putL L ≠ b)) ∧ Below w.heap.size w w' := by
 have HX0 := Lib.hid h
 have HL := Lib.hid hl
 obtain ⟨A0, c0, rfl, -, -, -, -⟩ := h
 obtain ⟨n, hn⟩ : ∃ n, n = b.length := ⟨_, rfl⟩
 have HN := Lib.hid hn
 have HX : Hid (Txt w w.heap.size (.slice A0 n c0) b) := Lib.hid (by rw [hn]; exact HX0.out)
 rw [← hn]
 have hn4 : n ≤ 10000 := by rw [hn]; exact hl
 clear hn HX0 hl
 go_enter Tryz.func43, Tryz.ntmps43
 go_wp2_with fail
 go_loopw [4, 5] (fun s4 s5 wr => ∃ (L : List Int) (A : Option Addr) (c m k : Nat), s5 = .int .i64 k ∧ s4 = .slice A m c ∧ k ≤ n ∧ m ≤ k ∧ m = L.length ∧ NumsOk L ∧ putL L = b.take k ∧ IntsOwn wr w.heap.size (.slice A m c) L ∧ Below w.heap.size w wr) (fun _ s5 _ => n - (intOf s5).toNat)
 case atStart => exact ⟨[], none, 0, 0, 0, by go_num, rfl, by omega, by omega, rfl, (fun z hz => by cases hz), by rw [List.take_zero]; rfl, ListOwn.nil_, Below.refl _ _⟩
 case round =>
  obtain ⟨L, A, c, m, k, rfl, rfl, hk, hmk, hm, hnum, hput, ho, hb⟩ := hrel
  have HM := Lib.hid hm
  have HNUM := Lib.hid hnum
  have HPUT := Lib.hid hput
  have HO := Lib.hid ho
  have BW := Lib.hid hb
  clear hm hnum hput ho hb
  by_cases hlt : k < n
  ·have hlt' : (k : Int) < n := by omega
   have HK : Hid (k < b.length) := Lib.hid (by rw [← HN.out]; exact hlt)
   obtain ⟨N1, N2, E, hg⟩ : ∃ x y z, getSpec b (k : Int) = (x, y, z) := ⟨_, _, _, rfl⟩
   have HG := Lib.hid hg
   clear hg
   go_wp2_with fail
   refine (rget_any _ b k wr ((HX.out.below BW.out).more BW.out.size) (by have := HL.out; omega)).mono ?_
   rintro e w1 ⟨rfl, b1⟩
   rw [HG.out]
   have B1 := Lib.hid (BW.out.trans (b1.mono BW.out.size))
   have O1 := Lib.hid (HO.out.below intR b1)
   clear b1 BW HO
   by_cases he : E = 0
   rotate_left
   ·have d0 : (E != 0) = true := by simpa using he
    have HNO : Hid (∀ M, NumsOk M → putL M ≠ b) := Lib.hid (get_none HNUM.out HPUT.out HK.out (by rw [HG.out]; exact he))
    clear he
    go_wp2_with fail
    refine bodyPost_ret (results_tmp2 rfl _ _ _) rfl ?_
    exact ⟨.inr ⟨rfl, HNO.out⟩, B1.out⟩
   subst he
   have d0 : ((0 : Int) != 0) = false := by decide
   obtain ⟨n1, m1, h1, h2, h3, h4, h5⟩ := get_some HNUM.out HPUT.out (by rw [HG.out])
   rw [HG.out] at h1
   obtain ⟨rfl, rfl⟩ : N1 = (n1 : Int) ∧ N2 = (m1 : Int) := by
    injection h1 with e1 e2
    injection e2 with e2 e3
    exact ⟨e1, e2⟩
   have H4 := Lib.hid h4
   have H5 := Lib.hid h5
   have H3 : Hid (m1 ≤ n) := Lib.hid (by rw [HN.out]; exact h3)
   have H2 := Lib.hid h2
   have KL : Hid (m + 1 = (L ++ [(n1 : Int)]).length) := Lib.hid (by rw [List.length_append, ← HM.out]; rfl)
   clear h1 h2 h3 h4 h5 HG HPUT HNUM
   go_wp2_with ((with_reducible show wpList _ _ _ (⟨some 25, _, _, _, _, _⟩ :: _) _ _); refine wpList_append_ints rfl (.tmp 22) (.tmp 24) rfl (lo := w.heap.size) rfl (O1.out.below intR (below_new _ _)) HM.out rfl (ints_alloc _ [(n1 : Int)] (by simp)) (m + 1) rfl (by omega) (by have := B1.out.size; simp; omega) ?_; intro A5 c5 w5 ho5 hb5 _; have O5 := Lib.hid ho5; have B5 := Lib.hid hb5; clear ho5 hb5)
   go_roundw
   case measure => have := H2.out; simp [intOf]; omega
   case rel => exact ⟨L ++ [(n1 : Int)], A5, c5, m + 1, m1, by go_num, rfl, H3.out, by have := H2.out; omega, KL.out, H4.out, H5.out, O5.out, (B1.out.alloc B1.out.size _).trans B5.out⟩
  ·obtain rfl : n = k := by omega
   have hlt' : ¬ (n : Int) < n := by omega
   have HE : Hid (putL L = b) := Lib.hid (by rw [HPUT.out, HN.out, List.take_length])
   go_wp2_with fail
   refine bodyPost_ret (results_tmp2 rfl _ _ _) rfl ?_
   exact ⟨.inl ⟨L, _, _, _, rfl, HM.out, by omega, HO.out, HNUM.out, HE.out⟩, BW.out⟩
theorem rwritten_any (v : Value) (p : Pl) (w : World) (h : PlanV w w.heap.size v p) (hm : PlanMay p) :
  Calls Tryz.prog 29 #[v] w fun e w' => ∃ u, e = .returned u ∧ TxtOwn w' w.heap.size u (textL p) ∧ Below w.heap.size w w' := by
 have HM := Lib.hid hm
 clear hm
 obtain ⟨A2, c2, A3, c3, A4, c4, A5, c5, n2, n3, n4, n5, rfl, hm2, hm3, hm4, hm5, HCP, HIN, HN⟩ := open_plan h
 have hq0 := heap_alloc_self w (.cells #[.int .i64 p.ver, .int .i64 p.par, .slice A2 n2 c2, .slice A3 n3 c3, .slice A4 n4 c4, .slice A5 n5 c5] 28)
 have hqb := below_new w (.cells #[.int .i64 p.ver, .int .i64 p.par, .slice A2 n2 c2, .slice A3 n3 c3, .slice A4 n4 c4, .slice A5 n5 c5] 28)
 go_enter Tryz.func29, Tryz.ntmps29
 go_upto_region 1 with fail
 generalize w.alloc (.cells #[.int .i64 p.ver, .int .i64 p.par, .slice A2 n2 c2, .slice A3 n3 c3, .slice A4 n4 c4, .slice A5 n5 c5] 28) = q at hq0 hqb ⊢
 have XP := Lib.hid hq0
 have BQ := Lib.hid hqb
 clear hq0 hqb
 obtain ⟨k0, k1, k2, k3, k4, k5⟩ := cell6_of XP.out
 go_wp2_with fail
 refine (rnumbers_any _ p q ⟨_, _, _, _, rfl, (HIN.out.below BQ.out).more BQ.out.size⟩ HM.out).mono ?_
 rintro e w1 ⟨A, c, n, rfl, hn, ho, hb⟩
 have O1 := Lib.hid ho
 have B1 := Lib.hid (BQ.out.trans (hb.mono BQ.out.size))
 clear ho hb hn k0 k1 k2 k3 k4 k5
 go_wp2_with fail
 refine (rput12_any _ (numsP p) w1 (O1.out.in_ intR_cells) (nums_ok HM.out) (by rw [numsP_eq, List.length_cons, List.length_cons]; have := rest_len HM.out; omega)).mono ?_
 rintro e w2 ⟨u, rfl, ho, hb⟩
 have O2 : Hid (TxtOwn w2 w.heap.size u (textL p)) := Lib.hid (TxtOwn.mono ho B1.out.size)
 have B2 := Lib.hid (B1.out.trans (hb.mono B1.out.size))
 clear ho hb
 go_wp2_with fail
 go_ret
 exact ⟨_, rfl, O2.out, B2.out⟩

theorem rnumber_at (v : Value) (l : List Int) (a : Nat) (w : World) (h : IntsIn w w.heap.size v l) (ha : a ≤ 100000) (z : Int) (hz : z = (a : Int)) :
  Calls Tryz.prog 44 #[v, .int .i64 z] w fun e w' => e = .returned (.int .i64 (l.getD a 0)) ∧ w' = w := by
 subst hz
 exact rnumber_any v l a w h ha
theorem rints_at (v : Value) (l : List Int) (a : Nat) (m : Int) (w : World) (h : IntsIn w w.heap.size v l) (ha : a ≤ 100000) (hl : l.length ≤ 50000) (z : Int) (hz : z = (a : Int)) :
  Calls Tryz.prog 83 #[v, .int .i64 z, .int .i64 m] w fun e w' => ∃ A c k, e = .returned (.slice A k c) ∧ k = (rdI l a m).length ∧ IntsOwn w' w.heap.size (.slice A k c) (rdI l a m) ∧ Below w.heap.size w w' := by
 subst hz
 exact rints12_any v l a m w h ha hl
theorem infoFlank2k : (Tryz.prog.info? 98).map (fun i => (i.zero, i.size, i.bytes)) = some (some (.agg #[.int .i64 0, .int .i64 0]), 2, 16) := by kernel_rfl
/-- A route in its box p6, and what it holds so far; the box p4 for the answer. -/
structure RSt (w W : World) (p4 p6 lo : Nat) (row : Array Value) (v3 v4 : Value) (P O : List Int) : Prop where
 x4 : W.heap[p4]? = some (.cells #[.int .i64 0, .int .i64 0, .int .i64 0, .slice none 0 0, .slice none 0 0, .slice none 0 0, .int .i64 0] 44 (0, 0))
 x6 : W.heap[p6]? = some (.cells row 44 (0, 0))
 o3 : IntsOwn W lo v3 P
 o4 : IntsOwn W lo v4 O
 b : Below w.heap.size w W
section
variable {w W W' : World} {p4 p6 lo : Nat} {row : Array Value} {v3 v4 : Value} {P O : List Int}
theorem RSt.below (h : RSt w W p4 p6 lo row v3 v4 P O) (hb : Below W.heap.size W W') : RSt w W' p4 p6 lo row v3 v4 P O :=
 ⟨(hb.block _ (heap_lt h.x4)).trans h.x4, (hb.block _ (heap_lt h.x6)).trans h.x6, h.o3.below intR hb, h.o4.below intR hb, h.b.trans (hb.mono h.b.size)⟩
theorem RSt.set (h : RSt w W p4 p6 lo row v3 v4 P O) (h46 : p4 ≠ p6) (h6 : p6 < lo) (hw : w.heap.size ≤ p6) (k : Nat) (x : Value) : RSt w (W.setCell ⟨p6, k, none⟩ x) p4 p6 lo (row.setIfInBounds k x) v3 v4 P O :=
 ⟨(heap_setFar W p6 k p4 _ h46).trans h.x4, heap_setK (k := k) h.x6 x, own_kept intF h.o3 (grown_setK W p6 k x) (fun g hg => by have := own_lo h.o3 g hg; omega), own_kept intF h.o4 (grown_setK W p6 k x) (fun g hg => by have := own_lo h.o4 g hg; omega), below_set h.b hw k x⟩
theorem RSt.kept (h : RSt w W p4 p6 lo row v3 v4 P O) (hb : Below lo W W') (hk : KeptT 98 W W') (h4 : p4 < lo) (h6 : p6 < lo) (hw : w.heap.size ≤ lo) : RSt w W' p4 p6 lo row v3 v4 P O :=
 ⟨(hb.block _ h4).trans h.x4, (hb.block _ h6).trans h.x6, own_keptT intF h.o3 hk (by decide), own_keptT intF h.o4 hk (by decide), h.b.trans (hb.mono hw)⟩
theorem RSt.with3 (h : RSt w W p4 p6 lo row v3 v4 P O) {v : Value} {L : List Int} (ho : IntsOwn W lo v L) : RSt w W p4 p6 lo row v v4 L O := ⟨h.x4, h.x6, ho, h.o4, h.b⟩
theorem RSt.with4 (h : RSt w W p4 p6 lo row v3 v4 P O) {v : Value} {L : List Int} (ho : IntsOwn W lo v L) : RSt w W p4 p6 lo row v3 v P L := ⟨h.x4, h.x6, h.o3, ho, h.b⟩
end
set_option maxHeartbeats 16000000 in
theorem rroute12_any (v : Value) (l : List Int) (a : Nat) (w : World) (h : IntsIn w w.heap.size v l) (hl : l.length ≤ 10000) (ha : a < l.length) (za : Int) (hza : za = (a : Int)) :
  Calls Tryz.prog 45 #[v, .int .i64 za] w fun e w' => ∃ u3 u4 u5, e = .returned (.tuple #[.agg #[.int .i64 (rdR l a).id, .int .i64 (rdR l a).entry, .int .i64 (rdR l a).exit, u3, u4, u5, .int .i64 (rdR l a).timer], .int .i64 (rdN l a : Int)]) ∧ RtOwn w' w.heap.size u3 u4 u5 (rdR l a) ∧ Below w.heap.size w w' := by
 subst hza
 have HL := Lib.hid hl
 have HALT := Lib.hid ha
 clear hl ha
 obtain ⟨A, c, rfl, hcl, hcm⟩ := h.slice
 obtain ⟨n, hn⟩ : ∃ n, n = l.length := ⟨_, rfl⟩
 have HN := Lib.hid hn
 have HA := Lib.hid (show IntsIn w w.heap.size (.slice A n c) l by rw [hn]; exact h)
 rw [← hn]
 have hml : n ≤ 9223372036854775807 := by unfold maxLen at hcm; omega
 clear hn hcl hcm h
 have han : a < n := by rw [HN.out]; exact HALT.out
 have hn4 : n ≤ 10000 := by rw [HN.out]; exact HL.out
 have HPL : Hid (n ≤ 10000 ∧ l.length = n ∧ l.length ≤ 50000) := Lib.hid ⟨hn4, HN.out.symm, by have := HL.out; omega⟩
 have hx4 := heap_alloc_self w (.cells #[.int .i64 0, .int .i64 0, .int .i64 0, .slice none 0 0, .slice none 0 0, .slice none 0 0, .int .i64 0] 44)
 have hb4 := below_new w (.cells #[.int .i64 0, .int .i64 0, .int .i64 0, .slice none 0 0, .slice none 0 0, .slice none 0 0, .int .i64 0] 44)
 have hs4 := heap_alloc_size w (.cells #[.int .i64 0, .int .i64 0, .int .i64 0, .slice none 0 0, .slice none 0 0, .slice none 0 0, .int .i64 0] 44)
 go_enter Tryz.func45, Tryz.ntmps45
 go_upto_region 1 with fail
 generalize w.alloc (.cells #[.int .i64 0, .int .i64 0, .int .i64 0, .slice none 0 0, .slice none 0 0, .slice none 0 0, .int .i64 0] 44) = q at hx4 hb4 hs4 ⊢
 have X4 := Lib.hid hx4
 have BQ := Lib.hid hb4
 have SQ : Hid (q.heap.size = w.heap.size + 1) := Lib.hid hs4
 have LI_q := Lib.hid ((HA.out.below intR hb4).more intR hb4.size)
 clear hx4 hb4 hs4
 have hw1 : IntKind.i64.wrap ((a : Int) + 1) = (a : Int) + 1 := wrap_id (by omega) (by omega)
 have hw2 : IntKind.i64.wrap ((a : Int) + 2) = (a : Int) + 2 := wrap_id (by omega) (by omega)
 have hw3 : IntKind.i64.wrap ((a : Int) + 3) = (a : Int) + 3 := wrap_id (by omega) (by omega)
 have hw4 : IntKind.i64.wrap ((a : Int) + 4) = (a : Int) + 4 := wrap_id (by omega) (by omega)
 obtain ⟨X0, hX0⟩ : ∃ x, x = l.getD a 0 := ⟨_, rfl⟩
 have HX0 := Lib.hid hX0
 clear hX0
 obtain ⟨X1, hX1⟩ : ∃ x, x = l.getD (a + 1) 0 := ⟨_, rfl⟩
 have HX1 := Lib.hid hX1
 clear hX1
 obtain ⟨X2, hX2⟩ : ∃ x, x = l.getD (a + 2) 0 := ⟨_, rfl⟩
 have HX2 := Lib.hid hX2
 clear hX2
 obtain ⟨N3, hN3⟩ : ∃ x, x = l.getD (a + 3) 0 := ⟨_, rfl⟩
 have HN3 := Lib.hid hN3
 clear hN3
 go_wp2_with fail
 refine (rnumber_at _ l (a) q LI_q.out (by omega) _ (by omega)).mono ?_
 rintro e w' ⟨rfl, hw⟩
 rw [hw, ← HX0.out]
 clear hw w'
 go_wp2_with fail
 refine (rnumber_at _ l (a + 1) q LI_q.out (by omega) _ (by omega)).mono ?_
 rintro e w' ⟨rfl, hw⟩
 rw [hw, ← HX1.out]
 clear hw w'
 go_wp2_with fail
 refine (rnumber_at _ l (a + 2) q LI_q.out (by omega) _ (by omega)).mono ?_
 rintro e w' ⟨rfl, hw⟩
 rw [hw, ← HX2.out]
 clear hw w'
 have XX0 := heap_alloc_self q (.cells #[.int .i64 0, .int .i64 0, .int .i64 0, .slice none 0 0, .slice none 0 0, .slice none 0 0, .int .i64 0] 44)
 have hb5 := below_setRow (below_new q (.cells #[.int .i64 0, .int .i64 0, .int .i64 0, .slice none 0 0, .slice none 0 0, .slice none 0 0, .int .i64 0] 44)) (Nat.le_refl _) #[.int .i64 X0, .int .i64 X1, .int .i64 X2, .slice none 0 0, .slice none 0 0, .slice none 0 0, .int .i64 0]
 have hx5 := setRow_heap (q.alloc (.cells #[.int .i64 0, .int .i64 0, .int .i64 0, .slice none 0 0, .slice none 0 0, .slice none 0 0, .int .i64 0] 44)) q.heap.size _ #[.int .i64 X0, .int .i64 X1, .int .i64 X2, .slice none 0 0, .slice none 0 0, .slice none 0 0, .int .i64 0] 44 _ XX0
 go_upto_region 2 with ((with_reducible show wpList _ _ _ (⟨none, _, _, _, _, _⟩ :: _) _ _); refine wpList_store_rowS rfl _ (.tmp 6) (.tmp 20) rfl q.heap.size rfl (c' := #[.int .i64 X0, .int .i64 X1, .int .i64 X2, .slice none 0 0, .slice none 0 0, .slice none 0 0, .int .i64 0]) rfl XX0 infoRoute7 rfl (by simp [Value.oneCell']) ?_)
 generalize (q.alloc (.cells #[.int .i64 0, .int .i64 0, .int .i64 0, .slice none 0 0, .slice none 0 0, .slice none 0 0, .int .i64 0] 44)).setRow q.heap.size #[.int .i64 X0, .int .i64 X1, .int .i64 X2, .slice none 0 0, .slice none 0 0, .slice none 0 0, .int .i64 0] = q1 at hb5 hx5 ⊢
 obtain ⟨p6, hp6⟩ : ∃ n, n = q.heap.size := ⟨_, rfl⟩
 rw [← hp6] at hx5 ⊢
 obtain ⟨p4, hp4⟩ : ∃ n, n = w.heap.size := ⟨_, rfl⟩
 have hx4 : q1.heap[p4]? = some (.cells #[.int .i64 0, .int .i64 0, .int .i64 0, .slice none 0 0, .slice none 0 0, .slice none 0 0, .int .i64 0] 44 (0, 0)) := (hb5.block _ (by rw [hp4]; exact heap_lt X4.out)).trans (by rw [hp4]; exact X4.out)
 obtain ⟨lo, hlo⟩ : ∃ n, n = p6 + 1 := ⟨_, rfl⟩
 have PP : Hid (p4 ≠ p6 ∧ p6 < lo ∧ p4 < lo ∧ w.heap.size ≤ p6 ∧ w.heap.size ≤ lo ∧ p6 + 1 = lo) := Lib.hid (by have := SQ.out; omega)
 have PG : Hid (p4 = w.heap.size) := Lib.hid hp4
 have S0 : Hid (RSt w q1 p4 p6 lo #[.int .i64 X0, .int .i64 X1, .int .i64 X2, .slice none 0 0, .slice none 0 0, .slice none 0 0, .int .i64 0] (.slice none 0 0) (.slice none 0 0) [] []) := Lib.hid ⟨hx4, hx5, ListOwn.nil_, ListOwn.nil_, BQ.out.trans (hb5.mono BQ.out.size)⟩
 rw [← hp4]
 clear XX0 hb5 hx5 hp6 hp4 hx4 hlo LI_q X4 BQ SQ
 have LI_q1 := Lib.hid ((HA.out.below intR S0.out.b).more intR S0.out.b.size)
 have LQ_q1 : Hid (lo ≤ q1.heap.size) := Lib.hid (by have h1 := heap_lt S0.out.x6; have h2 := PP.out.2.2.2.2.2; omega)
 go_wp2_with fail
 refine (rnumber_at _ l (a + 3) q1 LI_q1.out (by omega) _ (by omega)).mono ?_
 rintro e w' ⟨rfl, hw⟩
 rw [hw, ← HN3.out]
 clear hw w'
 obtain ⟨PA, hPA⟩ : ∃ x, x = rdI l (a + 4) N3 := ⟨_, rfl⟩
 have HPA := Lib.hid hPA
 clear hPA
 go_wp2_with fail
 refine (rints_at _ l (a + 4) N3 q1 LI_q1.out (by omega) HPL.out.2.2 _ (by omega)).mono ?_
 rintro e Pi ⟨AP, cP, kP, rfl, hk, ho, hb⟩
 have KP := Lib.hid hk
 have OP := Lib.hid (ho.mono LQ_q1.out)
 have TP := Lib.hid (S0.out.below hb)
 clear hk ho hb S0 LI_q1 LQ_q1
 obtain ⟨m0, m1, m2, m3, m4, m5, m6⟩ := cell7_of TP.out.x6
 have fz := frozen2_of TP.out.x6 3
 go_upto_region 4 with fail
 have tS : RSt w (Pi.setCell ⟨p6, 3, none⟩ (.slice AP kP cP)) p4 p6 lo #[.int .i64 X0, .int .i64 X1, .int .i64 X2, .slice AP kP cP, .slice none 0 0, .slice none 0 0, .int .i64 0] (.slice AP kP cP) (.slice none 0 0) (rdI l (a + 4) N3) [] := (TP.out.with3 OP.out).set PP.out.1 PP.out.2.1 PP.out.2.2.2.1 3 (.slice AP kP cP)
 generalize Pi.setCell ⟨p6, 3, none⟩ (.slice AP kP cP) = Pw at tS ⊢
 have SP := Lib.hid tS
 clear tS TP OP fz m0 m1 m2 m3 m4 m5 m6
 have LI_Pw := Lib.hid ((HA.out.below intR SP.out.b).more intR SP.out.b.size)
 have LQ_Pw : Hid (lo ≤ Pw.heap.size) := Lib.hid (by have h1 := heap_lt SP.out.x6; have h2 := PP.out.2.2.2.2.2; omega)
 have HKP : Hid (kP ≤ n - (a + 4) ∧ rdA1 l a = a + 4 + kP) := Lib.hid (by
  have h1 := KP.out
  rw [rdI_len] at h1
  have h2 := HPL.out.2.1
  refine ⟨by omega, ?_⟩
  rw [rdA1, ← HN3.out, ← KP.out])
 obtain ⟨a1, ha1⟩ : ∃ x, x = a + 4 + kP := ⟨_, rfl⟩
 have HA1 : Hid (rdA1 l a = a1) := Lib.hid (by rw [ha1]; exact HKP.out.2)
 have ha1n : a1 ≤ n + 4 := by have := HKP.out.1; omega
 have hwa1 : IntKind.i64.wrap ((a : Int) + 4 + (kP : Int)) = (a1 : Int) := by rw [wrap_id (by omega) (by omega)]; omega
 have hwa1b : IntKind.i64.wrap ((a1 : Int) + 1) = (a1 : Int) + 1 := wrap_id (by omega) (by omega)
 clear ha1
 obtain ⟨m0, m1, m2, m3, m4, m5, m6⟩ := cell7_of SP.out.x6
 obtain ⟨N4, hN4⟩ : ∃ x, x = l.getD a1 0 := ⟨_, rfl⟩
 have HN4 := Lib.hid hN4
 clear hN4
 go_upto_region 5 with fail
 clear m0 m1 m2 m3 m4 m5 m6
 clear hwa1 hw1 hw2 hw3 hw4
 go_wp2_with fail
 refine (rnumber_at _ l (a1) Pw LI_Pw.out (by omega) _ (by omega)).mono ?_
 rintro e w' ⟨rfl, hw⟩
 rw [hw, ← HN4.out]
 clear hw w'
 go_wp2_with fail
 refine (rints_at _ l (a1 + 1) N4 Pw LI_Pw.out (by omega) HPL.out.2.2 _ (by omega)).mono ?_
 rintro e Vi ⟨AV, cV, kV, rfl, hk, ho, hb⟩
 have KV := Lib.hid hk
 have OV := Lib.hid (ho.mono LQ_Pw.out)
 have TV := Lib.hid (SP.out.below hb)
 clear hk ho hb SP LI_Pw LQ_Pw
 obtain ⟨m0, m1, m2, m3, m4, m5, m6⟩ := cell7_of TV.out.x6
 have fz := frozen2_of TV.out.x6 4
 go_upto_region 7 with fail
 have tS : RSt w (Vi.setCell ⟨p6, 4, none⟩ (.slice AV kV cV)) p4 p6 lo #[.int .i64 X0, .int .i64 X1, .int .i64 X2, .slice AP kP cP, .slice AV kV cV, .slice none 0 0, .int .i64 0] (.slice AP kP cP) (.slice AV kV cV) (rdI l (a + 4) N3) (rdI l (a1 + 1) N4) := (TV.out.with4 OV.out).set PP.out.1 PP.out.2.1 PP.out.2.2.2.1 4 (.slice AV kV cV)
 generalize Vi.setCell ⟨p6, 4, none⟩ (.slice AV kV cV) = Vw at tS ⊢
 have SV := Lib.hid tS
 clear tS TV OV fz m0 m1 m2 m3 m4 m5 m6
 have LI_Vw := Lib.hid ((HA.out.below intR SV.out.b).more intR SV.out.b.size)
 have LQ_Vw : Hid (lo ≤ Vw.heap.size) := Lib.hid (by have h1 := heap_lt SV.out.x6; have h2 := PP.out.2.2.2.2.2; omega)
 have HKV : Hid (kV ≤ n - (a1 + 1) ∧ rdA2 l a = a1 + 1 + kV) := Lib.hid (by
  have h1 := KV.out
  rw [rdI_len] at h1
  have h2 := HPL.out.2.1
  refine ⟨by omega, ?_⟩
  rw [rdA2, HA1.out, ← HN4.out, ← KV.out])
 obtain ⟨a2, ha2⟩ : ∃ x, x = a1 + 1 + kV := ⟨_, rfl⟩
 have HA2 : Hid (rdA2 l a = a2) := Lib.hid (by rw [ha2]; exact HKV.out.2)
 have ha2n : a2 ≤ n + 5 := by have := HKV.out.1; omega
 have hwa2 : IntKind.i64.wrap ((a1 : Int) + 1 + (kV : Int)) = (a2 : Int) := by rw [wrap_id (by omega) (by omega)]; omega
 have hwa2b : IntKind.i64.wrap ((a2 : Int) + 1) = (a2 : Int) + 1 := wrap_id (by omega) (by omega)
 clear ha2
 obtain ⟨m0, m1, m2, m3, m4, m5, m6⟩ := cell7_of SV.out.x6
 obtain ⟨N5, hN5⟩ : ∃ x, x = l.getD a2 0 := ⟨_, rfl⟩
 have HN5 := Lib.hid hN5
 clear hN5
 go_upto_region 8 with fail
 clear m0 m1 m2 m3 m4 m5 m6
 clear hwa2 hwa1b
 go_wp2_with fail
 refine (rnumber_at _ l (a2) Vw LI_Vw.out (by omega) _ (by omega)).mono ?_
 rintro e w' ⟨rfl, hw⟩
 rw [hw, ← HN5.out]
 clear hw w'
 obtain ⟨M, hM⟩ : ∃ x, x = rdM l a := ⟨_, rfl⟩
 have HM : Hid (M = min N5.toNat ((n - (a2 + 1) + 1) / 2)) := Lib.hid (by rw [hM, rdM, HA2.out, ← HN5.out, HPL.out.2.1])
 have HMR := Lib.hid hM
 clear hM
 go_wp2_with fail
 clear hwa2b
 go_loopw [1, 8] (fun s1 s8 wr => ∃ (i : Nat) (A5 : Option Addr) (c5 : Nat), s8 = .int .i64 i ∧ s1 = .int .i64 ((a2 : Int) + 1 + 2 * i) ∧ i ≤ M ∧ RSt w wr p4 p6 lo #[.int .i64 X0, .int .i64 X1, .int .i64 X2, .slice AP kP cP, .slice AV kV cV, .slice A5 i c5, .int .i64 0] (.slice AP kP cP) (.slice AV kV cV) (rdI l (a + 4) N3) (rdI l (a1 + 1) N4) ∧ FlanksOwn wr lo (.slice A5 i c5) (rdJ l (a2 + 1) i)) (fun _ s8 _ => M - (intOf s8).toNat)
 case atStart => exact ⟨0, none, 0, by go_num, by simp, by omega, SV.out, ListOwn.nil_⟩
 case round =>
  obtain ⟨wy, hwy⟩ : ∃ u, u = wr := ⟨_, rfl⟩
  subst hwy
  obtain ⟨i, A5, c5, rfl, rfl, hi, hst, ho⟩ := hrel
  have ST := Lib.hid hst
  have O5 := Lib.hid ho
  clear hst ho
  have LI_wy := Lib.hid ((HA.out.below intR ST.out.b).more intR ST.out.b.size)
  have LQ_wy : Hid (lo ≤ wy.heap.size) := Lib.hid (by have h1 := heap_lt ST.out.x6; have h2 := PP.out.2.2.2.2.2; omega)
  obtain ⟨m0, m1, m2, m3, m4, m5, m6⟩ := cell7_of ST.out.x6
  have hin : i ≤ 10000 := by have := HM.out; omega
  by_cases h1 : (i : Int) < N5
  rotate_left
  ·have d0 : decide ((i : Int) < N5) = false := decide_eq_false h1
   have HE : Hid (i = M) := Lib.hid (by have := HM.out; omega)
   obtain ⟨T, hT⟩ : ∃ x, x = l.getD (a2 + 1 + 2 * i) 0 := ⟨_, rfl⟩
   have HT := Lib.hid hT
   clear hT
   have hwd : IntKind.i64.wrap ((a2 : Int) + 1 + 2 * i + 1) = (a2 : Int) + 1 + 2 * i + 1 := wrap_id (by omega) (by omega)
   go_wp2_with fail
   refine (rnumber_at _ l (a2 + 1 + 2 * i) wy LI_wy.out (by omega) _ (by omega)).mono ?_
   rintro e w' ⟨rfl, hw⟩
   rw [hw, ← HT.out]
   clear hw w'
   have fz := frozen2_of ST.out.x6 6
   go_upto_region 16 with fail
   have tS : RSt w (wy.setCell ⟨p6, 6, none⟩ (.int .i64 T)) p4 p6 lo #[.int .i64 X0, .int .i64 X1, .int .i64 X2, .slice AP kP cP, .slice AV kV cV, .slice A5 i c5, .int .i64 T] (.slice AP kP cP) (.slice AV kV cV) (rdI l (a + 4) N3) (rdI l (a1 + 1) N4) := ST.out.set PP.out.1 PP.out.2.1 PP.out.2.2.2.1 6 (.int .i64 T)
   have tO : FlanksOwn (wy.setCell ⟨p6, 6, none⟩ (.int .i64 T)) lo (.slice A5 i c5) (rdJ l (a2 + 1) i) := own_kept joinF O5.out (grown_setK wy p6 6 _) (fun g hg => by have h1 := own_lo O5.out g hg; have h2 := PP.out.2.1; omega)
   generalize wy.setCell ⟨p6, 6, none⟩ (.int .i64 T) = wF at tS tO ⊢
   have SF := Lib.hid tS
   have OF := Lib.hid tO
   clear tS tO m0 m1 m2 m3 m4 m5 m6 fz ST O5
   obtain ⟨m0, m1, m2, m3, m4, m5, m6⟩ := cell7_of SF.out.x6
   have HRD : Hid (rdR l a = ⟨X0, X1, X2, rdI l (a + 4) N3, rdI l (a1 + 1) N4, rdJ l (a2 + 1) i, T⟩ ∧ rdN l a = a2 + 1 + 2 * i + 1) := Lib.hid (by
    rw [rdR, rdN, HA1.out, HA2.out, ← HMR.out, ← HE.out, ← HN3.out, ← HN4.out, ← HX0.out, ← HX1.out, ← HX2.out, ← HT.out]
    exact ⟨rfl, rfl⟩)
   go_wp2_with ((with_reducible show wpList _ _ _ (⟨none, _, _, _, _, _⟩ :: _) _ _); refine wpList_store_rowS rfl _ (.tmp 4) (.tmp 87) rfl p4 rfl (c' := #[.int .i64 X0, .int .i64 X1, .int .i64 X2, .slice AP kP cP, .slice AV kV cV, .slice A5 i c5, .int .i64 T]) rfl SF.out.x4 infoRoute7 rfl (by simp [Value.oneCell']) ?_)
   refine bodyPost_ret (results_rowS_tmp (c := #[.int .i64 X0, .int .i64 X1, .int .i64 X2, .slice AP kP cP, .slice AV kV cV, .slice A5 i c5, .int .i64 T]) rfl _ _ p4 rfl (setRow_heap _ _ _ _ _ _ SF.out.x4) Tryz.underlying44 infoRoute7 (.int .i64 ((a2 : Int) + 1 + 2 * i + 1)) rfl) rfl ?_
   have hg := grownBy_setRow wF p4 #[.int .i64 X0, .int .i64 X1, .int .i64 X2, .slice AP kP cP, .slice AV kV cV, .slice A5 i c5, .int .i64 T]
   rw [HRD.out.1, HRD.out.2]
   refine ⟨_, _, _, by push_cast; rfl, ⟨?_, ?_, ?_⟩, below_setRow SF.out.b (by rw [PG.out]; exact Nat.le_refl _) _⟩
   ·exact (own_kept (T := 3) (sz := 1) (R := IntR) intF SF.out.o3 hg (fun g h => by have h1 := own_lo SF.out.o3 g h; have h2 := PP.out.2.2.1; omega)).mono PP.out.2.2.2.2.1
   ·exact (own_kept (T := 3) (sz := 1) (R := IntR) intF SF.out.o4 hg (fun g h => by have h1 := own_lo SF.out.o4 g h; have h2 := PP.out.2.2.1; omega)).mono PP.out.2.2.2.2.1
   ·exact (own_kept (T := 98) (sz := 2) (R := JoinR) joinF OF.out hg (fun g h => by have h1 := own_lo OF.out g h; have h2 := PP.out.2.2.1; omega)).mono PP.out.2.2.2.2.1
  have d0 : decide ((i : Int) < N5) = true := decide_eq_true h1
  by_cases h2 : a2 + 1 + 2 * i < n
  rotate_left
  ·have d1 : decide ((a2 : Int) + 1 + 2 * i < n) = false := decide_eq_false (by omega)
   have HE : Hid (i = M) := Lib.hid (by have := HM.out; omega)
   obtain ⟨T, hT⟩ : ∃ x, x = l.getD (a2 + 1 + 2 * i) 0 := ⟨_, rfl⟩
   have HT := Lib.hid hT
   clear hT
   have hwd : IntKind.i64.wrap ((a2 : Int) + 1 + 2 * i + 1) = (a2 : Int) + 1 + 2 * i + 1 := wrap_id (by omega) (by omega)
   go_wp2_with fail
   refine (rnumber_at _ l (a2 + 1 + 2 * i) wy LI_wy.out (by omega) _ (by omega)).mono ?_
   rintro e w' ⟨rfl, hw⟩
   rw [hw, ← HT.out]
   clear hw w'
   have fz := frozen2_of ST.out.x6 6
   go_upto_region 16 with fail
   have tS : RSt w (wy.setCell ⟨p6, 6, none⟩ (.int .i64 T)) p4 p6 lo #[.int .i64 X0, .int .i64 X1, .int .i64 X2, .slice AP kP cP, .slice AV kV cV, .slice A5 i c5, .int .i64 T] (.slice AP kP cP) (.slice AV kV cV) (rdI l (a + 4) N3) (rdI l (a1 + 1) N4) := ST.out.set PP.out.1 PP.out.2.1 PP.out.2.2.2.1 6 (.int .i64 T)
   have tO : FlanksOwn (wy.setCell ⟨p6, 6, none⟩ (.int .i64 T)) lo (.slice A5 i c5) (rdJ l (a2 + 1) i) := own_kept joinF O5.out (grown_setK wy p6 6 _) (fun g hg => by have h1 := own_lo O5.out g hg; have h2 := PP.out.2.1; omega)
   generalize wy.setCell ⟨p6, 6, none⟩ (.int .i64 T) = wF at tS tO ⊢
   have SF := Lib.hid tS
   have OF := Lib.hid tO
   clear tS tO m0 m1 m2 m3 m4 m5 m6 fz ST O5
   obtain ⟨m0, m1, m2, m3, m4, m5, m6⟩ := cell7_of SF.out.x6
   have HRD : Hid (rdR l a = ⟨X0, X1, X2, rdI l (a + 4) N3, rdI l (a1 + 1) N4, rdJ l (a2 + 1) i, T⟩ ∧ rdN l a = a2 + 1 + 2 * i + 1) := Lib.hid (by
    rw [rdR, rdN, HA1.out, HA2.out, ← HMR.out, ← HE.out, ← HN3.out, ← HN4.out, ← HX0.out, ← HX1.out, ← HX2.out, ← HT.out]
    exact ⟨rfl, rfl⟩)
   go_wp2_with ((with_reducible show wpList _ _ _ (⟨none, _, _, _, _, _⟩ :: _) _ _); refine wpList_store_rowS rfl _ (.tmp 4) (.tmp 87) rfl p4 rfl (c' := #[.int .i64 X0, .int .i64 X1, .int .i64 X2, .slice AP kP cP, .slice AV kV cV, .slice A5 i c5, .int .i64 T]) rfl SF.out.x4 infoRoute7 rfl (by simp [Value.oneCell']) ?_)
   refine bodyPost_ret (results_rowS_tmp (c := #[.int .i64 X0, .int .i64 X1, .int .i64 X2, .slice AP kP cP, .slice AV kV cV, .slice A5 i c5, .int .i64 T]) rfl _ _ p4 rfl (setRow_heap _ _ _ _ _ _ SF.out.x4) Tryz.underlying44 infoRoute7 (.int .i64 ((a2 : Int) + 1 + 2 * i + 1)) rfl) rfl ?_
   have hg := grownBy_setRow wF p4 #[.int .i64 X0, .int .i64 X1, .int .i64 X2, .slice AP kP cP, .slice AV kV cV, .slice A5 i c5, .int .i64 T]
   rw [HRD.out.1, HRD.out.2]
   refine ⟨_, _, _, by push_cast; rfl, ⟨?_, ?_, ?_⟩, below_setRow SF.out.b (by rw [PG.out]; exact Nat.le_refl _) _⟩
   ·exact (own_kept (T := 3) (sz := 1) (R := IntR) intF SF.out.o3 hg (fun g h => by have h1 := own_lo SF.out.o3 g h; have h2 := PP.out.2.2.1; omega)).mono PP.out.2.2.2.2.1
   ·exact (own_kept (T := 3) (sz := 1) (R := IntR) intF SF.out.o4 hg (fun g h => by have h1 := own_lo SF.out.o4 g h; have h2 := PP.out.2.2.1; omega)).mono PP.out.2.2.2.2.1
   ·exact (own_kept (T := 98) (sz := 2) (R := JoinR) joinF OF.out hg (fun g h => by have h1 := own_lo OF.out g h; have h2 := PP.out.2.2.1; omega)).mono PP.out.2.2.2.2.1
  have d1 : decide ((a2 : Int) + 1 + 2 * i < n) = true := decide_eq_true (by omega)
  have HIM : Hid (i < M) := Lib.hid (by have := HM.out; omega)
  have hwb : IntKind.i64.wrap ((a2 : Int) + 1 + 2 * i + 1) = (a2 : Int) + 1 + 2 * i + 1 := wrap_id (by omega) (by omega)
  have hwc : IntKind.i64.wrap ((a2 : Int) + 1 + 2 * i + 2) = (a2 : Int) + 1 + 2 * (i + 1 : Nat) := by rw [wrap_id (by omega) (by omega)]; omega
  obtain ⟨e0, he0⟩ : ∃ x, x = l.getD (a2 + 1 + 2 * i) 0 := ⟨_, rfl⟩
  have He0 := Lib.hid he0
  clear he0
  obtain ⟨e1, he1⟩ : ∃ x, x = l.getD (a2 + 1 + 2 * i + 1) 0 := ⟨_, rfl⟩
  have He1 := Lib.hid he1
  clear he1
  obtain ⟨i0, hii, hz0, hzz, hz2⟩ := info_parts infoFlank2k
  have I0 := Lib.hid hii
  have I1 := Lib.hid hz0
  have I2 := Lib.hid hzz
  have I3 := Lib.hid hz2
  clear hii hz0 hzz hz2
  go_upto_region 13 with fail
  clear m0 m1 m2 m3 m4 m5 m6
  refine wp_region_end (S := fun v' => Below lo wy v') 13 (by kernel_rfl) (Below.refl lo wy).drew (fun hHeld => ?_)
  refine tke [1, 11, 13] 0 hHeld ?_;refine tkd [11, 13] 1 hHeld (fun w' hSw => cell7_of ((hSw.block _ PP.out.2.1).trans ST.out.x6)) ?_;refine tke [4, 9, 10, 11, 13] 2 hHeld ?_;refine tke [4, 9, 10, 11, 13] 3 hHeld ?_;refine tke [8, 9, 10, 11, 13] 5 hHeld ?_;refine tke [7, 8, 9, 10, 11, 13] 6 hHeld ?_;refine tke [8, 9, 10, 11, 13] 7 hHeld ?_
  refine wpAnyE_one (i := 4) (by kernel_rfl) rfl (by kernel_rfl) (fun K hK => ?_)
  go_simp
  refine (rnumber_at _ l (a2 + 1 + 2 * i) wy.drew ((LI_wy.out.below intR (Below.refl wy.heap.size wy).drew).more intR (Below.refl wy.heap.size wy).drew.size) (by omega) _ (by omega)).mono ?_
  rintro e w' ⟨rfl, hw⟩
  rw [hw, ← He0.out]
  clear hw w'
  try go_wp2_with fail
  refine hK.out _ _ ?_ fun hHeld => ?_;exact (Below.refl lo wy).drew;clear hK K;try simp only [zn, Act.put]
  refine wpAnyE_one (i := 8) (by kernel_rfl) rfl (by kernel_rfl) (fun K hK => ?_)
  go_simp
  refine (rnumber_at _ l (a2 + 1 + 2 * i + 1) wy.drew ((LI_wy.out.below intR (Below.refl wy.heap.size wy).drew).more intR (Below.refl wy.heap.size wy).drew.size) (by omega) _ (by omega)).mono ?_
  rintro e w' ⟨rfl, hw⟩
  rw [hw, ← He1.out]
  clear hw w'
  try go_wp2_with fail
  refine hK.out _ _ ?_ fun hHeld => ?_;exact (Below.refl lo wy).drew;clear hK K;try simp only [zn, Act.put]
  refine tke [10, 11, 13] 9 hHeld ?_
  refine wpAnyE_one (i := 10) (by kernel_rfl) rfl (by kernel_rfl) (fun K hK => ?_)
  go_simp
  refine hK.out _ _ ?_ fun hHeld => ?_;exact ((Below.refl lo wy).drew.alloc LQ_wy.out _);clear hK K;try simp only [zn, Act.put]
  refine wpAnyE_one (i := 11) (by kernel_rfl) rfl (by kernel_rfl) (fun K hK => ?_)
  rw [if_pos (by rfl)]
  refine wp_append_flat (T := 98) (tS := 42) (sz := 2) (bytes := 16) (R := JoinR) (.tmp 69) (.tmp 78) rfl joinF (fun _ _ => joinR_cells) (fun _ _ => joinR_full) Tryz.underlying42 I0.out I1.out rfl I2.out (by decide) I3.out (by decide) (lo := lo) rfl (O5.out.below joinR ((Below.refl wy.heap.size wy).drew.alloc (Nat.le_refl _) _)) (by rw [rdJ_len]) rfl (elem_alloc (T := 98) (row := [.int .i64 e0, .int .i64 e1]) (x := (e0, e1)) (fun _ _ => joinR_cells) ⟨rfl, rfl⟩) (i + 1) rfl (by omega) (by have := LQ_wy.out; simp; omega) ?_
  intro AE cE wE hoE hbE hkE
  have OE : Hid (FlanksOwn wE lo (.slice AE (i + 1) cE) (rdJ l (a2 + 1) (i + 1))) := Lib.hid (by rw [rdJ_succ, ← He0.out, ← He1.out]; exact hoE)
  have BE : Hid (Below lo wy wE) := Lib.hid (((Below.refl lo wy).drew.alloc LQ_wy.out _).trans hbE)
  have SE := Lib.hid ((ST.out.below ((Below.refl wy.heap.size wy).drew.alloc (Nat.le_refl _) _)).kept hbE hkE PP.out.2.2.1 PP.out.2.1 PP.out.2.2.2.2.1)
  obtain ⟨cw0, cw1, cw2, cw3, cw4, cw5, cw6⟩ := cell7_of SE.out.x6
  have fw := frozen2_of SE.out.x6 5
  clear hoE hbE hkE
  refine hK.out _ _ ?_ fun hHeld => ?_;exact BE.out;clear hK K;try simp only [zn, Act.put]
  refine tke [13] 12 hHeld ?_
  refine wpAnyE_last (by kernel_rfl) rfl (by kernel_rfl) (fun K hK => ?_)
  rw [if_pos (by rfl)]
  go_simp
  refine hK.out _ _ ?_
  clear hK K
  have tS := SE.out.set PP.out.1 PP.out.2.1 PP.out.2.2.2.1 5 (.slice AE (i + 1) cE)
  have tO : FlanksOwn (wE.setCell ⟨p6, 5, none⟩ (.slice AE (i + 1) cE)) lo (.slice AE (i + 1) cE) (rdJ l (a2 + 1) (i + 1)) := own_kept joinF OE.out (grown_setK wE p6 5 _) (fun g hg => by have h1 := own_lo OE.out g hg; have h2 := PP.out.2.1; omega)
  generalize wE.setCell ⟨p6, 5, none⟩ (.slice AE (i + 1) cE) = wF at tS tO ⊢
  have SF := Lib.hid tS
  have OF := Lib.hid tO
  clear tS tO SE OE BE cw0 cw1 cw2 cw3 cw4 cw5 cw6 fw ST O5
  go_wp2_with fail
  go_roundw
  case measure => have := HIM.out; simp [intOf]; omega
  case rel => exact ⟨i + 1, AE, cE, by go_num, by simp, by have := HIM.out; omega, SF.out, OF.out⟩
end Go.Proofs.YteloiajocjahmaaGreatDoor
