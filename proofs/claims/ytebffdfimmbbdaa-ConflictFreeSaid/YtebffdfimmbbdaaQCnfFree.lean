/-
 ConflictFree: the walk, given the program's contracts.
 Conditions: none.
-/
import Derived.Test.YtebffdfimmbbdaaQGCnfSt
import Derived.Test.YtebffdfimmbbdaaQGCnfFreeM
import Derived.Test.YtebffdfimmbbdaaQGPlnRefD
import Derived.Test.YtebffdfimmbbdaaQGSndM
import Derived.Test.YtebffdfimmbbdaaQWayProg
import Derived.Test.YtebffdfimmbbdaaQGPlnRefB
import Derived.Test.YtebffdfimmbbdaaQWayAllF
import Derived.BigQuiet
set_option linter.unusedVariables false
set_option linter.unusedSimpArgs false
set_option maxRecDepth 100000
namespace Go.Proofs.Ytebffdfimmbbdaa
open Go.RowKit

theorem infoAskF : (Try.prog.info? 51).map (·.size) = some 3 := by kernel_rfl
theorem ints_getD {W : World} {B n c : Nat} {A : Option Addr} {l : List Int} {j : Nat} (h : IntsIn W B (.slice A n c) l) (hj : j < l.length) : ∃ b off, A = some ⟨b, off, none⟩ ∧ b < B ∧ W.cell? ⟨b, off + j, none⟩ = some (.int .i64 (l.getD j 0)) := by
 obtain ⟨b, off, e, hb, hc⟩ := h.at hj
 refine ⟨b, off, e, hb, ?_⟩
 rw [List.getD, List.getElem?_eq_getElem hj]
 simpa [IntR] using hc
/-- Both arrays, the way's box, the list of all its sections. -/
structure StF (W : World) (g1 g2 p lo : Nat) (row : Array Value) (vA u0 u1 u2 : Value) (l : List Int) (x : Wy) (f g : Nat → Int) : Prop where
 h1 : W.heap[g1]? = some (.cells (lieRow f) 3 (0, 0))
 h2 : W.heap[g2]? = some (.cells (lieRow g) 3 (0, 0))
 bx : W.heap[p]? = some (.cells row 47 (0, 0))
 all : IntsOwn W lo vA l
 way : WyOwn W lo u0 u1 u2 x
section
variable {W W' : World} {g1 g2 p lo : Nat} {row : Array Value} {vA u0 u1 u2 : Value} {l : List Int} {x : Wy} {f g : Nat → Int}
theorem StF.below (h : StF W g1 g2 p lo row vA u0 u1 u2 l x f g) (hb : Below W.heap.size W W') : StF W' g1 g2 p lo row vA u0 u1 u2 l x f g :=
 ⟨(hb.block _ (heap_lt h.h1)).trans h.h1, (hb.block _ (heap_lt h.h2)).trans h.h2, (hb.block _ (heap_lt h.bx)).trans h.bx, h.all.below intR hb, h.way.below hb⟩
theorem StF.set1 (h : StF W g1 g2 p lo row vA u0 u1 u2 l x f g) (hg : g1 < lo) (h12 : g2 ≠ g1) (h1p : p ≠ g1) {q : Nat} (hq : q < 100) (v : Int) : StF (W.setCell ⟨g1, q, none⟩ (.int .i64 v)) g1 g2 p lo row vA u0 u1 u2 l x (fun i => if i = q then v else f i) g :=
 ⟨by rw [heap_setK (k := q) h.h1, lieRow_set f v hq], (heap_setFar W g1 q g2 _ h12).trans h.h2, (heap_setFar W g1 q p _ h1p).trans h.bx,
  own_kept intF h.all (grown_setK W g1 q _) (fun k hk => by have := own_lo h.all k hk; omega), h.way.kept (grown_setK W g1 q _) hg⟩
theorem StF.set2 (h : StF W g1 g2 p lo row vA u0 u1 u2 l x f g) (hg : g2 < lo) (h12 : g1 ≠ g2) (h1p : p ≠ g2) {q : Nat} (hq : q < 100) (v : Int) : StF (W.setCell ⟨g2, q, none⟩ (.int .i64 v)) g1 g2 p lo row vA u0 u1 u2 l x f (fun i => if i = q then v else g i) :=
 ⟨(heap_setFar W g2 q g1 _ h12).trans h.h1, by rw [heap_setK (k := q) h.h2, lieRow_set g v hq], (heap_setFar W g2 q p _ h1p).trans h.bx,
  own_kept intF h.all (grown_setK W g2 q _) (fun k hk => by have := own_lo h.all k hk; omega), h.way.kept (grown_setK W g2 q _) hg⟩
end
set_option maxHeartbeats 16000000 in
theorem walk_cnf_free (hc : CnfSaid) (hs : SndSaid) (hp : PlanSaid) (hw : WaySaid) (v : Value) (p : Pl) (vi : Value) (ids : List Int) (w : World) (h : PlanV w w.heap.size v p) (hi : IntsIn w w.heap.size vi ids) :
  Calls Try.prog 5 #[v, vi] w fun e w' => e = .returned (.bool true) ∧ Below w.heap.size w w' := by
 obtain ⟨y2, y3, y4, y5, rfl, hin⟩ := h
 have HID0 := Lib.hid hi
 obtain ⟨AI, cI, rfl, hclI, hcmI⟩ := hi.slice
 obtain ⟨nI, hnI⟩ : ∃ n, n = ids.length := ⟨_, rfl⟩
 have HNI := Lib.hid hnI
 have HMI : Hid (nI ≤ 9223372036854775807) := Lib.hid (by rw [hnI]; unfold maxLen at hcmI; omega)
 have HIB0 : Hid (IntsIn w w.heap.size (.slice AI nI cI) ids) := Lib.hid (by rw [hnI]; exact HID0.out)
 rw [← hnI]
 clear hnI hclI hcmI hi HID0
 have HIN0 := Lib.hid hin
 obtain ⟨A2, c2, rfl, -, -⟩ := hin.secs.slice
 obtain ⟨A3, c3, rfl, -, -⟩ := hin.pts.slice
 obtain ⟨A4, c4, rfl, -, -⟩ := hin.sigs.slice
 obtain ⟨A5, c5, rfl, hcl5, hcm5⟩ := hin.routes.slice
 obtain ⟨n2, hn2⟩ : ∃ n, n = p.secs.length := ⟨_, rfl⟩
 obtain ⟨n3, hn3⟩ : ∃ n, n = p.pts.length := ⟨_, rfl⟩
 obtain ⟨n4, hn4⟩ : ∃ n, n = p.sigs.length := ⟨_, rfl⟩
 obtain ⟨n5, hn5⟩ : ∃ n, n = p.routes.length := ⟨_, rfl⟩
 have HM5 : Hid (n5 ≤ 9223372036854775807) := Lib.hid (by rw [hn5]; unfold maxLen at hcm5; omega)
 have HN5 := Lib.hid hn5
 have HP0 : Hid (PlanV w w.heap.size (.agg #[.int .i64 p.ver, .int .i64 p.par, .slice A2 n2 c2, .slice A3 n3 c3, .slice A4 n4 c4, .slice A5 n5 c5]) p) := Lib.hid ⟨_, _, _, _, rfl, by rw [hn2, hn3, hn4, hn5]; exact HIN0.out⟩
 rw [← hn2, ← hn3, ← hn4, ← hn5]
 clear hn2 hn3 hn4 hn5 HIN0 hin hcl5 hcm5
 have hq0 := heap_alloc_self w (.cells #[.int .i64 p.ver, .int .i64 p.par, .slice A2 n2 c2, .slice A3 n3 c3, .slice A4 n4 c4, .slice A5 n5 c5] 30)
 have hqb := below_new w (.cells #[.int .i64 p.ver, .int .i64 p.par, .slice A2 n2 c2, .slice A3 n3 c3, .slice A4 n4 c4, .slice A5 n5 c5] 30)
 go_enter Try.func5, Try.ntmps5
 go_upto_region 1 with fail
 generalize w.alloc (.cells #[.int .i64 p.ver, .int .i64 p.par, .slice A2 n2 c2, .slice A3 n3 c3, .slice A4 n4 c4, .slice A5 n5 c5] 30) = q at hq0 hqb ⊢
 have BZ := Lib.hid hqb
 have XP := Lib.hid hq0
 have HP := Lib.hid ((HP0.out.below hqb).more hqb.size)
 have HI := Lib.hid ((HIB0.out.below intR hqb).more intR hqb.size)
 clear hq0 hqb HP0 HIB0
 go_wp2_with fail
 refine (alive11 hc q).mono ?_
 rintro e w1 ⟨rfl, b1⟩
 replace BZ := Lib.hid (BZ.out.trans (b1.mono BZ.out.size))
 replace XP := Lib.hid ((b1.block _ (heap_lt XP.out)).trans XP.out)
 replace HP := Lib.hid ((HP.out.below b1).more b1.size)
 replace HI := Lib.hid ((HI.out.below intR b1).more intR b1.size)
 clear b1
 obtain ⟨k0, k1, k2, k3, k4, k5⟩ := cell6_of XP.out
 go_wp2_with fail
 refine (rgreat8_any _ p w1 HP.out).mono ?_
 rintro e w2 ⟨⟨g, rfl, hg⟩, bG⟩
 clear k0 k1 k2 k3 k4 k5
 replace BZ := Lib.hid (BZ.out.trans (bG.mono BZ.out.size))
 replace XP := Lib.hid ((bG.block _ (heap_lt XP.out)).trans XP.out)
 replace HP := Lib.hid ((HP.out.below bG).more bG.size)
 replace HI := Lib.hid ((HI.out.below intR bG).more intR bG.size)
 clear bG
 cases g with
 | true =>
  go_wp2_with fail
  go_ret
  exact ⟨rfl, BZ.out⟩
 | false =>
 have FEW := Lib.hid (hg rfl)
 clear hg
 by_cases h20 : 20 < nI
 ·have d0 : (20 : Int) < nI := by omega
  have d1 : (nI : Int) > 20 := d0
  go_wp2_with fail
  go_ret
  exact ⟨rfl, BZ.out⟩
 have d0 : ¬ (20 : Int) < nI := by omega
 obtain ⟨S, hS⟩ : ∃ x, x = sndE p := ⟨_, rfl⟩
 have HS := Lib.hid hS
 clear hS
 obtain ⟨k0, k1, k2, k3, k4, k5⟩ := cell6_of XP.out
 go_wp2_with fail
 refine (hs.check _ p w2 HP.out).mono ?_
 rintro e w3 ⟨rfl, b3⟩
 rw [← HS.out]
 clear k0 k1 k2 k3 k4 k5
 replace BZ := Lib.hid (BZ.out.trans (b3.mono BZ.out.size))
 replace XP := Lib.hid ((b3.block _ (heap_lt XP.out)).trans XP.out)
 replace HP := Lib.hid ((HP.out.below b3).more b3.size)
 replace HI := Lib.hid ((HI.out.below intR b3).more intR b3.size)
 clear b3
 by_cases h0 : S = 0
 rotate_left
 ·have d2 : (S != 0) = true := by simpa using h0
  clear h0
  go_wp2_with fail
  go_ret
  exact ⟨rfl, BZ.out⟩
 subst h0
 have HSN := Lib.hid (sndE_zero.1 HS.out.symm)
 have d2 : ((0 : Int) != 0) = false := by decide
 have N20 : Hid (nI ≤ 20) := Lib.hid (by omega)
 clear HS
 go_wp2_with fail
 clear d2 d0 h20
 go_loopw [6, 7] (fun s6 s7 wr => ∃ (i k_ c_ : Nat) (A_ : Option Addr) (L : List Int), i ≤ nI ∧ s7 = .int .i64 i ∧ s6 = .slice A_ k_ c_ ∧ k_ = L.length ∧ k_ ≤ i ∧ FreeL p L ∧ IntsOwn wr w3.heap.size (.slice A_ k_ c_) L ∧ Below w3.heap.size w3 wr) (fun _ s7 _ => nI - (intOf s7).toNat)
 case atStart => exact ⟨0, 0, 0, none, [], by omega, by go_num, rfl, rfl, Nat.le_refl _, FreeL.nil_ p, ListOwn.nil_, Below.refl _ _⟩
 case round =>
  obtain ⟨i, k_, c_, A_, L, hi, rfl, rfl, hlen, hki, hfr, hsel, hb⟩ := hrel
  have HLL := Lib.hid hlen
  have HKI := Lib.hid hki
  have FR := Lib.hid hfr
  have OW := Lib.hid hsel
  have BW := Lib.hid hb
  clear hlen hki hfr hsel hb
  by_cases hlt : i < nI
  ·have hlt' : (i : Int) < nI := by omega
   have hil : i < ids.length := by rw [← HNI.out]; exact hlt
   obtain ⟨y, hy⟩ : ∃ y, y = ids[i] := ⟨_, rfl⟩
   have XPr := Lib.hid ((BW.out.block _ (heap_lt XP.out)).trans XP.out)
   have HPr := Lib.hid ((HP.out.below BW.out).more BW.out.size)
   obtain ⟨bi, oi, e1, hbi, hg0⟩ := (HI.out.below intR BW.out).at hil
   cases e1
   rw [← hy] at hg0
   have GI : Hid (wr.cell? ⟨bi, oi + i, none⟩ = some (.int .i64 y)) := Lib.hid (by simpa [IntR] using hg0)
   have GBI : Hid (bi < w3.heap.size) := Lib.hid hbi
   obtain ⟨R, hR⟩ : ∃ x, x = elV p kRt p.routes y zRt := ⟨_, rfl⟩
   obtain ⟨E, hE⟩ : ∃ x, x = elE p kRt p.routes y := ⟨_, rfl⟩
   have VR := Lib.hid hR
   have VE := Lib.hid hE
   have HEA : Hid (E = 0 ↔ 0 ≤ at1 kRt p.routes y) := Lib.hid (by
    rw [hE, elE, if_pos (planMay_true HSN.out.may)]
    split
    ·constructor <;> intro h <;> omega
    ·constructor <;> intro h <;> omega)
   have hi64 : i ≤ 20 := by have := N20.out; omega
   clear hy hg0 hbi hR hE
   go_upto_region 8 with fail
   go_cut [9] from 48 to 55 (fun s9 wx => s9 = .int .i64 E ∧ Below wr.heap.size wr wx)
   case first =>
    refine wp_region_held_drew (S := fun v => Below wr.heap.size wr v) (by kernel_rfl) (Below.refl wr.heap.size wr).drew (fun hHeld => ?_)
    refine tkc 0 hHeld (fun w' hSw => cell6_of ((hSw.block _ (heap_lt XPr.out)).trans XPr.out)) ?_;refine tk 1 hHeld ?_;refine tk 2 hHeld ?_;refine tk 3 hHeld ?_;refine tkc 4 hHeld (fun w' hSw => (hSw.cell (cell_lt GI.out)).trans GI.out) ?_
    have tb := (Below.refl wr.heap.size wr).drew
    generalize wr.drew = q0_ at tb hHeld ⊢
    have HB := Lib.hid tb
    clear tb
    refine wpAnyH_ready (rs := [5, 9]) (by kernel_rfl) (by simp) ?_
    refine AllReadyH.cons rfl (fun K hK => ?_) (AllReadyH.cons rfl (fun K hK => ?_) AllReadyH.nil)
    ·go_simp
     refine (hp.route _ p y q0_ ((HPr.out.below HB.out).more HB.out.size)).mono ?_
     rintro e qA_ ⟨u3, u4, u5, rfl, hro, b⟩
     rw [← VR.out] at hro
     rw [← VR.out, ← VE.out]
     obtain ⟨V3, g3, rfl⟩ := hro.path.slice
     obtain ⟨V4, g4, rfl⟩ := hro.over.slice
     obtain ⟨V5, g5, rfl⟩ := hro.flanks.slice
     have hu0 : True := trivial
     clear hro
     have HB' := Lib.hid (HB.out.trans (b.mono HB.out.size))
     have OU : Hid (True) := Lib.hid hu0
     clear hu0
     clear HB
     have HB := HB'
     clear HB' b
     try go_wp2_with fail
     refine hK.out _ _ ?_ fun hHeld => ?_;exact HB.out;clear hK K;try simp only [zn, Act.put]
     refine tk 6 hHeld ?_;refine tk 7 hHeld ?_;refine tk 8 hHeld ?_
     refine tkr 9 (fun K hK => ?_)
     go_simp
     have tb := HB.out.alloc HB.out.size (.cells #[.int .i64 0, .int .i64 0, .int .i64 0, .slice none 0 0, .slice none 0 0, .slice none 0 0, .int .i64 0] 41)
     have t6 := heap_alloc_self qA_ (.cells #[.int .i64 0, .int .i64 0, .int .i64 0, .slice none 0 0, .slice none 0 0, .slice none 0 0, .int .i64 0] 41)
     have tO := trivial
     refine hK.out _ _ ?_ fun hHeld => ?_;exact tb;clear hK K;try simp only [zn, Act.put]
     generalize qA_.alloc (.cells #[.int .i64 0, .int .i64 0, .int .i64 0, .slice none 0 0, .slice none 0 0, .slice none 0 0, .int .i64 0] 41) = qB_ at tb t6 tO hHeld ⊢
     obtain ⟨p8, hp⟩ : ∃ n, n = qA_.heap.size := ⟨_, rfl⟩
     rw [← hp] at t6 ⊢
     have PLB : Hid (wr.heap.size ≤ p8) := Lib.hid (by rw [hp]; exact HB.out.size)
     clear HB hp OU
     have HB := Lib.hid tb
     have XB := Lib.hid t6
     have OU := Lib.hid tO
     clear tb t6 tO
     refine tkr 10 (fun K hK => ?_)
     rw [if_pos (by rfl)]
     refine wp_store_rowS 41 (.tmp 8) (.tmp 54) rfl p8 rfl (c' := #[.int .i64 R.id, .int .i64 R.entry, .int .i64 R.exit, .slice V3 R.path.length g3, .slice V4 R.over.length g4, .slice V5 R.flanks.length g5, .int .i64 R.timer]) rfl XB.out infoRoute7 rfl (by simp [Value.oneCell']) ?_
     have tb := below_setRow HB.out PLB.out #[.int .i64 R.id, .int .i64 R.entry, .int .i64 R.exit, .slice V3 R.path.length g3, .slice V4 R.over.length g4, .slice V5 R.flanks.length g5, .int .i64 R.timer]
     have t6 := setRow_heap _ _ _ #[.int .i64 R.id, .int .i64 R.entry, .int .i64 R.exit, .slice V3 R.path.length g3, .slice V4 R.over.length g4, .slice V5 R.flanks.length g5, .int .i64 R.timer] _ _ XB.out
     have tO : True := trivial
     refine hK.out _ _ ?_ fun hHeld => ?_;exact tb;clear hK K;try simp only [zn, Act.put]
     generalize qB_.setRow p8 #[.int .i64 R.id, .int .i64 R.entry, .int .i64 R.exit, .slice V3 R.path.length g3, .slice V4 R.over.length g4, .slice V5 R.flanks.length g5, .int .i64 R.timer] = qC_ at tb t6 tO hHeld ⊢
     refine tk 11 hHeld ?_
     refine wpAnyH_done (by kernel_rfl) ?_ _
     go_wp2_with fail
     go_meet
     exact ⟨rfl, tb⟩
    ·go_simp
     have tb := HB.out.alloc HB.out.size (.cells #[.int .i64 0, .int .i64 0, .int .i64 0, .slice none 0 0, .slice none 0 0, .slice none 0 0, .int .i64 0] 41)
     have t6 := heap_alloc_self q0_ (.cells #[.int .i64 0, .int .i64 0, .int .i64 0, .slice none 0 0, .slice none 0 0, .slice none 0 0, .int .i64 0] 41)
     refine hK.out _ _ ?_ fun hHeld => ?_;exact tb;clear hK K;try simp only [zn, Act.put]
     generalize q0_.alloc (.cells #[.int .i64 0, .int .i64 0, .int .i64 0, .slice none 0 0, .slice none 0 0, .slice none 0 0, .int .i64 0] 41) = qA_ at tb t6 hHeld ⊢
     obtain ⟨p8, hp⟩ : ∃ n, n = q0_.heap.size := ⟨_, rfl⟩
     rw [← hp] at t6 ⊢
     have PLB : Hid (wr.heap.size ≤ p8) := Lib.hid (by rw [hp]; exact HB.out.size)
     clear HB hp
     have HB := Lib.hid tb
     have XA_ := Lib.hid t6
     clear tb t6
     refine tkr 5 (fun K hK => ?_)
     go_simp
     refine (hp.route _ p y qA_ ((HPr.out.below HB.out).more HB.out.size)).mono ?_
     rintro e qB_ ⟨u3, u4, u5, rfl, hro, b⟩
     rw [← VR.out] at hro
     rw [← VR.out, ← VE.out]
     obtain ⟨V3, g3, rfl⟩ := hro.path.slice
     obtain ⟨V4, g4, rfl⟩ := hro.over.slice
     obtain ⟨V5, g5, rfl⟩ := hro.flanks.slice
     have hu0 : True := trivial
     clear hro
     have HB' := Lib.hid (HB.out.trans (b.mono HB.out.size))
     have OU : Hid (True) := Lib.hid hu0
     clear hu0
     have XB := Lib.hid ((b.block _ (heap_lt XA_.out)).trans XA_.out)
     clear HB XA_
     have HB := HB'
     clear HB' b
     try go_wp2_with fail
     refine hK.out _ _ ?_ fun hHeld => ?_;exact HB.out;clear hK K;try simp only [zn, Act.put]
     refine tk 6 hHeld ?_;refine tk 7 hHeld ?_;refine tk 8 hHeld ?_
     refine tkr 10 (fun K hK => ?_)
     rw [if_pos (by rfl)]
     refine wp_store_rowS 41 (.tmp 8) (.tmp 54) rfl p8 rfl (c' := #[.int .i64 R.id, .int .i64 R.entry, .int .i64 R.exit, .slice V3 R.path.length g3, .slice V4 R.over.length g4, .slice V5 R.flanks.length g5, .int .i64 R.timer]) rfl XB.out infoRoute7 rfl (by simp [Value.oneCell']) ?_
     have tb := below_setRow HB.out PLB.out #[.int .i64 R.id, .int .i64 R.entry, .int .i64 R.exit, .slice V3 R.path.length g3, .slice V4 R.over.length g4, .slice V5 R.flanks.length g5, .int .i64 R.timer]
     have t6 := setRow_heap _ _ _ #[.int .i64 R.id, .int .i64 R.entry, .int .i64 R.exit, .slice V3 R.path.length g3, .slice V4 R.over.length g4, .slice V5 R.flanks.length g5, .int .i64 R.timer] _ _ XB.out
     have tO : True := trivial
     refine hK.out _ _ ?_ fun hHeld => ?_;exact tb;clear hK K;try simp only [zn, Act.put]
     generalize qB_.setRow p8 #[.int .i64 R.id, .int .i64 R.entry, .int .i64 R.exit, .slice V3 R.path.length g3, .slice V4 R.over.length g4, .slice V5 R.flanks.length g5, .int .i64 R.timer] = qC_ at tb t6 tO hHeld ⊢
     refine tk 11 hHeld ?_
     refine wpAnyH_done (by kernel_rfl) ?_ _
     go_wp2_with fail
     go_meet
     exact ⟨rfl, tb⟩
   case rest =>
    obtain ⟨rfl, hbv⟩ := hcut
    obtain ⟨v2, hv2⟩ : ∃ u, u = wc := ⟨_, rfl⟩
    subst hv2
    have B2 := Lib.hid hbv
    have XP2 := Lib.hid ((B2.out.block _ (heap_lt XPr.out)).trans XPr.out)
    have HP2 := Lib.hid ((HPr.out.below B2.out).more B2.out.size)
    have G2 : Hid (v2.cell? ⟨bi, oi + i, none⟩ = some (.int .i64 y)) := Lib.hid ((B2.out.cell (cell_lt GI.out)).trans GI.out)
    have OW2 := Lib.hid (OW.out.below intR B2.out)
    have BW2 := Lib.hid (BW.out.trans (B2.out.mono BW.out.size))
    have IN2 : Hid (IntsIn v2 v2.heap.size (.slice A_ k_ c_) L) := Lib.hid (OW2.out.in_ intR_cells)
    clear hbv XPr HPr GI OW BW B2
    obtain ⟨b0, hb0⟩ : ∃ b : Bool, b = (E == 0) := ⟨_, rfl⟩
    have HB0 : Hid (b0 = true ↔ apartB p L y 0) := Lib.hid (by
     rw [hb0, beq_iff_eq, HEA.out]
     exact ⟨fun h => ⟨h, fun j hj => absurd hj (by omega)⟩, fun h => h.1⟩)
    go_upto_region 10 with fail
    rw [← hb0]
    clear hb0
    have hk64 : k_ ≤ 20 := by have := HKI.out; omega
    go_wp2_with fail
    go_loopw [10, 11] (fun s10 s11 wx => ∃ (m : Nat) (bb : Bool), m ≤ k_ ∧ s11 = .int .i64 m ∧ s10 = .bool bb ∧ (bb = true ↔ apartB p L y m) ∧ Below v2.heap.size v2 wx) (fun _ s11 _ => k_ - (intOf s11).toNat)
    case atStart => exact ⟨0, b0, by omega, by go_num, rfl, HB0.out, Below.refl _ _⟩
    case round =>
     obtain ⟨m, bb, hm, rfl, rfl, hbb, hb⟩ := hrel
     obtain ⟨wy, hwy⟩ : ∃ u, u = wr := ⟨_, rfl⟩
     subst hwy
     have HBB := Lib.hid hbb
     have BY := Lib.hid hb
     clear hbb hb
     have XPy := Lib.hid ((BY.out.block _ (heap_lt XP2.out)).trans XP2.out)
     have HPy := Lib.hid ((HP2.out.below BY.out).more BY.out.size)
     have GY : Hid (wy.cell? ⟨bi, oi + i, none⟩ = some (.int .i64 y)) := Lib.hid ((BY.out.cell (cell_lt G2.out)).trans G2.out)
     by_cases hlk : m < k_
     ·have hlk' : (m : Int) < k_ := by omega
      have hml : m < L.length := by rw [← HLL.out]; exact hlk
      obtain ⟨z, hz⟩ : ∃ z, z = L[m] := ⟨_, rfl⟩
      have HZ : Hid (L.getD m 0 = z) := Lib.hid (by rw [hz, List.getD, List.getElem?_eq_getElem hml]; rfl)
      obtain ⟨bs, os, e2, -, hg1⟩ := (IN2.out.below intR BY.out).at hml
      cases e2
      rw [← hz] at hg1
      have GS : Hid (wy.cell? ⟨bs, os + m, none⟩ = some (.int .i64 z)) := Lib.hid (by simpa [IntR] using hg1)
      obtain ⟨TB, hTB⟩ : ∃ x, x = twoB p z y := ⟨_, rfl⟩
      obtain ⟨TE, hTE⟩ : ∃ x, x = twoE p z y := ⟨_, rfl⟩
      have VTB := Lib.hid hTB
      have VTE := Lib.hid hTE
      have NX : Hid (∀ b2 : Bool, (b2 = true ↔ bb = true ∧ TE = 0 ∧ TB = false) → (b2 = true ↔ apartB p L y (m + 1))) := Lib.hid (fun b2 h => by rw [h, apart_succ, HZ.out, hTE, hTB, HBB.out])
      have hm64 : m ≤ 20 := by omega
      clear hg1 hz hTB hTE
      go_upto_region 13 with fail
      refine wp_region_held_drew (S := fun v => Below wy.heap.size wy v) (by kernel_rfl) (Below.refl wy.heap.size wy).drew (fun hHeld => ?_)
      refine tkc 0 hHeld (fun w' hSw => cell6_of ((hSw.block _ (heap_lt XPy.out)).trans XPy.out)) ?_;refine tk 1 hHeld ?_;refine tk 2 hHeld ?_;refine tk 3 hHeld ?_;refine tkc 4 hHeld (fun w' hSw => (hSw.cell (cell_lt GS.out)).trans GS.out) ?_;refine tk 5 hHeld ?_;refine tk 6 hHeld ?_;refine tk 7 hHeld ?_;refine tkc 8 hHeld (fun w' hSw => (hSw.cell (cell_lt GY.out)).trans GY.out) ?_
      refine tkr 9 (fun K hK => ?_)
      go_simp
      refine (hc.two _ p z y wy.drew ((HPy.out.below (Below.refl wy.heap.size wy).drew).more (Below.refl wy.heap.size wy).drew.size)).mono ?_
      rintro e v5 ⟨rfl, b⟩
      rw [← VTB.out, ← VTE.out]
      have B5 : Hid (Below wy.heap.size wy v5) := Lib.hid ((Below.refl wy.heap.size wy).drew.trans (b.mono (Below.refl wy.heap.size wy).drew.size))
      clear b
      try go_wp2_with fail
      refine hK.out _ _ ?_ fun hHeld => ?_;exact B5.out;clear hK K;try simp only [zn, Act.put]
      refine tk 10 hHeld ?_;refine tk 11 hHeld ?_;refine tk 12 hHeld ?_;refine tk 13 hHeld ?_;refine tk 14 hHeld ?_
      refine wpAnyH_done (by kernel_rfl) ?_ _
      have B6 := Lib.hid (BY.out.trans (B5.out.mono BY.out.size))
      clear B5
      cases bb with
      | false =>
       have HN_ := Lib.hid (NX.out false ⟨fun h => absurd h (by simp), fun h => absurd h.1 (by simp)⟩)
       clear NX VTB VTE
       go_wp2_with fail
       go_roundw
       case measure => simp [intOf]; omega
       case rel => exact ⟨m + 1, false, by omega, by go_num, rfl, HN_.out, B6.out⟩
      | true =>
       by_cases hte : TE = 0
       rotate_left
       ·have d1 : (TE == 0) = false := by simpa using hte
        have HN_ := Lib.hid (NX.out false ⟨fun h => absurd h (by simp), fun h => absurd h.2.1 hte⟩)
        clear NX VTB VTE hte
        go_wp2_with fail
        go_roundw
        case measure => simp [intOf]; omega
        case rel => exact ⟨m + 1, false, by omega, by go_num, rfl, HN_.out, B6.out⟩
       have d1 : (TE == 0) = true := by simpa using hte
       cases TB with
       | true =>
        have HN_ := Lib.hid (NX.out false ⟨fun h => absurd h (by simp), fun h => absurd h.2.2 (by simp)⟩)
        clear NX VTB VTE hte
        go_wp2_with fail
        go_roundw
        case measure => simp [intOf]; omega
        case rel => exact ⟨m + 1, false, by omega, by go_num, rfl, HN_.out, B6.out⟩
       | false =>
        have HN_ := Lib.hid (NX.out true ⟨fun _ => ⟨rfl, hte, rfl⟩, fun _ => rfl⟩)
        clear NX VTB VTE hte
        go_wp2_with fail
        go_roundw
        case measure => simp [intOf]; omega
        case rel => exact ⟨m + 1, true, by omega, by go_num, rfl, HN_.out, B6.out⟩
     ·obtain rfl : k_ = m := by omega
      have hlk' : ¬ (k_ : Int) < k_ := by omega
      have OWy := Lib.hid (OW2.out.below intR BY.out)
      have BWy := Lib.hid (BW2.out.trans (BY.out.mono BW2.out.size))
      clear hlk
      cases bb with
      | false =>
       go_wp2_with fail
       go_roundw
       case measure => simp [intOf]; omega
       case rel => exact ⟨i + 1, k_, c_, A_, L, by omega, by go_num, rfl, HLL.out, by have := HKI.out; omega, FR.out, OWy.out, BWy.out⟩
      | true =>
       have FR2 : Hid (FreeL p (L ++ [y])) := Lib.hid (by
        have h := HBB.out.1 rfl
        exact FR.out.snoc h.1 fun j hj => h.2 j (by rw [HLL.out]; exact hj))
       obtain ⟨yss, hown, hyl, hm_, hys, hyr⟩ := OWy.out
       rw [← HLL.out] at hown
       have O := Lib.hid hown
       have YL := Lib.hid hyl
       have YS := Lib.hid hys
       have YR := Lib.hid hyr
       obtain ⟨i0, hii, hz0, hzz, hz2⟩ := info_parts infoInt
       have I0 := Lib.hid hii
       have I1 := Lib.hid hz0
       have I2 := Lib.hid hzz
       have I3 := Lib.hid hz2
       have g0 := GY.out
       have SZ : Hid (w3.heap.size ≤ wy.heap.size) := Lib.hid BWy.out.size
       clear hii hz0 hzz hz2 hown hyl hm_ hys hyr
       go_wp2_with ((with_reducible show wpList _ _ _ (⟨some 93, _, _, _, _, _⟩ :: _) _ _); refine wpList_append_list rfl (.tmp 87) (.tmp 92) _ rfl Try.underlying38 I0.out I1.out rfl I2.out (by decide) I3.out (by decide) rfl (owns_below O.out ((Below.refl wy.heap.size wy).alloc (Nat.le_refl _) _)) rfl (m := 1) (news := [.int .i64 y]) rfl (fun h => by cases h) (fun a ha j u hj => by cases ha; rw [Addr.add_lit, Nat.zero_add, World.cell?_alloc_new]; simpa using hj) (by simp [Value.oneCell']) (by have := N20.out; omega) (by have := SZ.out; simp; omega) ?_; intro z5 x5 hown5 hgrow5; obtain ⟨A5_, c5_, rfl⟩ := own_sliceN hown5; have OW5 := Lib.hid hown5; have GR5 := Lib.hid hgrow5; clear hown5 hgrow5)
       have S5 : Hid (IntsOwn x5 w3.heap.size (.slice A5_ (k_ + 1) c5_) (L ++ [y])) := Lib.hid (ListOwn.snoc (w1 := wy) (x := y) (ys := [.int .i64 y]) intR (fun _ h _ _ => h) (by rw [← HLL.out]; exact O.out) YL.out YS.out rfl (by have := N20.out; have := HLL.out; unfold maxLen; omega) YR.out (Below.refl _ _) rfl (by rw [← HLL.out]; exact OW5.out) GR5.out)
       have B5 : Hid (Below w3.heap.size wy x5) := Lib.hid (((Below.refl w3.heap.size wy).alloc SZ.out _).grown GR5.out (by have := SZ.out; simp; omega) (own_ge O.out))
       go_roundw
       case measure => simp [intOf]; omega
       case rel => exact ⟨i + 1, k_ + 1, c5_, A5_, L ++ [y], by omega, by go_num, rfl, by rw [List.length_append, ← HLL.out]; rfl, by have := HKI.out; omega, FR2.out, S5.out, BWy.out.trans (B5.out.mono (Nat.le_refl _))⟩
  ·obtain rfl : nI = i := by omega
   have hlt' : ¬ (nI : Int) < nI := by omega
   obtain ⟨wB, hwB⟩ : ∃ u, u = wr := ⟨_, rfl⟩
   subst hwB
   have HPB := Lib.hid ((HP.out.below BW.out).more BW.out.size)
   have XPB := Lib.hid ((BW.out.block _ (heap_lt XP.out)).trans XP.out)
   have INB : Hid (IntsIn wB wB.heap.size (.slice A_ k_ c_) L) := Lib.hid (OW.out.in_ intR_cells)
   have BZB := Lib.hid (BZ.out.trans (BW.out.mono BZ.out.size))
   have K20 : Hid (k_ ≤ 20) := Lib.hid (by have := HKI.out; have := N20.out; omega)
   obtain ⟨o1, hm1, hn1⟩ := made_lies wB
   have bo1 := below_new wB o1
   obtain ⟨wO, hwO⟩ : ∃ u, u = wB.alloc o1 := ⟨_, rfl⟩
   rw [← hwO] at hm1 hn1 bo1
   clear hwO
   obtain ⟨o2, hm2, hn2⟩ := made_lies wO
   have bo2 := below_new wO o2
   obtain ⟨wP, hwP⟩ : ∃ u, u = wO.alloc o2 := ⟨_, rfl⟩
   rw [← hwP] at hm2 hn2 bo2
   clear hwP
   have hn1b := (bo2.block _ (heap_lt hn1)).trans hn1
   have G12 := heap_lt hn1
   have BP := bo1.trans (bo2.mono bo1.size)
   go_wp2_with fail
   clear hm1 hm2 hn1 bo1 bo2
   obtain ⟨g1, hg1⟩ : ∃ n, n = wB.heap.size := ⟨_, rfl⟩
   obtain ⟨g2, hg2⟩ : ∃ n, n = wO.heap.size := ⟨_, rfl⟩
   rw [← hg1] at hn1b BP HPB INB G12 ⊢
   rw [← hg2] at hn2 G12 ⊢
   have H1 := Lib.hid hn1b
   have H2 := Lib.hid hn2
   have BP0 := Lib.hid BP
   have GG : Hid (g1 < g2 ∧ w.heap.size < g1 ∧ w.heap.size ≤ g1) := Lib.hid ⟨G12, by rw [hg1]; exact heap_lt XPB.out, by rw [hg1]; exact BZB.out.size⟩
   clear hn1b hn2 BP G12 hg1 hg2 BW OW HP XP BZ HI
   have hk64 : k_ ≤ 20 := K20.out
   go_wp2_with fail
   go_loopw [16] (fun s16 wx => ∃ (i : Nat) (f g : Nat → Int), i ≤ k_ ∧ s16 = .int .i64 i ∧ HeldF p L i [] f ∧ LieF p L i [] g ∧ wx.heap[g1]? = some (.cells (lieRow f) 3 (0, 0)) ∧ wx.heap[g2]? = some (.cells (lieRow g) 3 (0, 0)) ∧ Below g1 wB wx) (fun s16 _ => k_ - (intOf s16).toNat)
   case atStart => exact ⟨0, fun _ => 0, fun _ => 0, by omega, by go_num, fun s h => absurd rfl h, fun s h => absurd rfl h, H1.out, H2.out, BP0.out⟩
   case round =>
    obtain ⟨wx, hwx⟩ : ∃ u, u = wr := ⟨_, rfl⟩
    subst hwx
    obtain ⟨i, f, g, hi, rfl, hf, hg, hh1, hh2, hb⟩ := hrel
    have HF := Lib.hid hf
    have HG := Lib.hid hg
    have Y1 := Lib.hid hh1
    have Y2 := Lib.hid hh2
    have BX := Lib.hid hb
    clear hf hg hh1 hh2 hb
    by_cases hlt : i < k_
    ·have hlt' : (i : Int) < k_ := by omega
     have hil : i < L.length := by rw [← HLL.out]; exact hlt
     have HIL := Lib.hid hil
     obtain ⟨y, hgy⟩ : ∃ y, L.getD i 0 = y := ⟨_, rfl⟩
     obtain ⟨bs, os, e2, hbs, hq1⟩ := ints_getD (INB.out.below intR BX.out) hil
     cases e2
     rw [hgy] at hq1
     have GS : Hid (wx.cell? ⟨bs, os + i, none⟩ = some (.int .i64 y)) := Lib.hid hq1
     have GBS : Hid (bs < g1) := Lib.hid hbs
     obtain ⟨x, hx⟩ : ∃ x, x = wayL p L i := ⟨_, rfl⟩
     have HXE : Hid (wayV p y = x ∧ wayE p y = 0) := Lib.hid (by
      have h := free_way HSN.out FR.out hil
      rw [hgy] at h
      exact ⟨h.2.trans hx.symm, h.1⟩)
     have HX := Lib.hid hx
     have XPx := Lib.hid ((BX.out.block _ GG.out.2.1).trans XPB.out)
     have LO : Hid (g1 < wx.heap.size ∧ g2 < wx.heap.size) := Lib.hid ⟨heap_lt Y1.out, heap_lt Y2.out⟩
     have HPx := Lib.hid ((HPB.out.below BX.out).more (Nat.le_of_lt LO.out.1))
     have NLE : Hid (x.path.length ≤ 1000 ∧ x.over.length ≤ 1000) := Lib.hid (by
      have h := (free_in HSN.out FR.out hil).1.route
      have h1 := h.path
      have h2 := h.over
      rw [hx]
      show (rtL p L i).path.length ≤ 1000 ∧ (rtL p L i).over.length ≤ 1000
      omega)
     obtain ⟨dn0, hz0⟩ : ∃ n, n = x.path.length := ⟨_, rfl⟩
     obtain ⟨dn1, hz1⟩ : ∃ n, n = x.over.length := ⟨_, rfl⟩
     obtain ⟨dn2, hz2⟩ : ∃ n, n = x.asks.length := ⟨_, rfl⟩
     have HZ : Hid (dn0 = x.path.length ∧ dn1 = x.over.length ∧ dn2 = x.asks.length) := Lib.hid ⟨hz0, hz1, hz2⟩
     have hi64 : i ≤ 20 := by omega
     clear hgy hbs hq1 hx hz0 hz1 hz2 hil
     go_upto_region 22 with fail
     go_cut [17, 18] from 103 to 110 (fun s17 s18 wy => ∃ p17 D0 dd0 D1 dd1 D2 dd2, s17 = .pointer (some ⟨p17, 0, none⟩) ∧ s18 = .int .i64 0 ∧ wy.heap[p17]? = some (.cells #[.slice D0 dn0 dd0, .slice D1 dn1 dd1, .slice D2 dn2 dd2, .int .i64 x.near] 47 (0, 0)) ∧ WyOwn wy wx.heap.size (.slice D0 dn0 dd0) (.slice D1 dn1 dd1) (.slice D2 dn2 dd2) x ∧ wx.heap.size ≤ p17 ∧ Below wx.heap.size wx wy)
     case first =>
      refine wp_region_held_drew (S := fun v => Below wx.heap.size wx v) (by kernel_rfl) (Below.refl wx.heap.size wx).drew (fun hHeld => ?_)
      refine tkc 0 hHeld (fun w' hSw => cell6_of ((hSw.block _ (heap_lt XPx.out)).trans XPx.out)) ?_;refine tk 1 hHeld ?_;refine tk 2 hHeld ?_;refine tk 3 hHeld ?_;refine tkc 4 hHeld (fun w' hSw => (hSw.cell (cell_lt GS.out)).trans GS.out) ?_
      have tb := (Below.refl wx.heap.size wx).drew
      generalize wx.drew = q0_ at tb hHeld ⊢
      have HB := Lib.hid tb
      clear tb
      refine wpAnyH_ready (rs := [5, 9]) (by kernel_rfl) (by simp) ?_
      refine AllReadyH.cons rfl (fun K hK => ?_) (AllReadyH.cons rfl (fun K hK => ?_) AllReadyH.nil)
      ·go_simp
       refine (hw.of _ p y q0_ ((HPx.out.below HB.out).more HB.out.size)).mono ?_
       rintro e qA_ ⟨u0, u1, u2, rfl, hu_, b⟩
       rw [HXE.out.1] at hu_
       rw [HXE.out.1, HXE.out.2]
       obtain ⟨D0, dd0, rfl⟩ := hu_.path.slice
       obtain ⟨D1, dd1, rfl⟩ := hu_.over.slice
       obtain ⟨D2, dd2, rfl⟩ := hu_.asks.slice
       have hu0 := hu_.mono HB.out.size
       clear hu_
       rw [← HZ.out.1, ← HZ.out.2.1, ← HZ.out.2.2] at hu0 ⊢
       have HB' := Lib.hid (HB.out.trans (b.mono HB.out.size))
       have OU : Hid (WyOwn qA_ wx.heap.size (.slice D0 dn0 dd0) (.slice D1 dn1 dd1) (.slice D2 dn2 dd2) x) := Lib.hid hu0
       clear hu0
       clear HB
       have HB := HB'
       clear HB' b
       try go_wp2_with fail
       refine hK.out _ _ ?_ fun hHeld => ?_;exact HB.out;clear hK K;try simp only [zn, Act.put]
       refine tk 6 hHeld ?_;refine tk 7 hHeld ?_;refine tk 8 hHeld ?_
       refine tkr 9 (fun K hK => ?_)
       go_simp
       have tb := HB.out.alloc HB.out.size (.cells #[.slice none 0 0, .slice none 0 0, .slice none 0 0, .int .i64 0] 47)
       have t6 := heap_alloc_self qA_ (.cells #[.slice none 0 0, .slice none 0 0, .slice none 0 0, .int .i64 0] 47)
       have tO := OU.out.below (below_new qA_ (.cells #[.slice none 0 0, .slice none 0 0, .slice none 0 0, .int .i64 0] 47))
       refine hK.out _ _ ?_ fun hHeld => ?_;exact tb;clear hK K;try simp only [zn, Act.put]
       generalize qA_.alloc (.cells #[.slice none 0 0, .slice none 0 0, .slice none 0 0, .int .i64 0] 47) = qB_ at tb t6 tO hHeld ⊢
       obtain ⟨p17, hp⟩ : ∃ n, n = qA_.heap.size := ⟨_, rfl⟩
       rw [← hp] at t6 ⊢
       have PLB : Hid (wx.heap.size ≤ p17) := Lib.hid (by rw [hp]; exact HB.out.size)
       clear HB hp OU
       have HB := Lib.hid tb
       have XB := Lib.hid t6
       have OU := Lib.hid tO
       clear tb t6 tO
       refine tkr 10 (fun K hK => ?_)
       rw [if_pos (by rfl)]
       refine wp_store_rowS 47 (.tmp 17) (.tmp 109) rfl p17 rfl (c' := #[.slice D0 dn0 dd0, .slice D1 dn1 dd1, .slice D2 dn2 dd2, .int .i64 x.near]) rfl XB.out infoWay4 rfl (by simp [Value.oneCell']) ?_
       have tb := below_setRow HB.out PLB.out #[.slice D0 dn0 dd0, .slice D1 dn1 dd1, .slice D2 dn2 dd2, .int .i64 x.near]
       have t6 := setRow_heap _ _ _ #[.slice D0 dn0 dd0, .slice D1 dn1 dd1, .slice D2 dn2 dd2, .int .i64 x.near] _ _ XB.out
       have tO : WyOwn (qB_.setRow p17 #[.slice D0 dn0 dd0, .slice D1 dn1 dd1, .slice D2 dn2 dd2, .int .i64 x.near]) wx.heap.size (.slice D0 dn0 dd0) (.slice D1 dn1 dd1) (.slice D2 dn2 dd2) x := OU.out.offT (grownBy_setRow qB_ p17 #[.slice D0 dn0 dd0, .slice D1 dn1 dd1, .slice D2 dn2 dd2, .int .i64 x.near]) (by decide) (by decide) ⟨_, XB.out⟩
       refine hK.out _ _ ?_ fun hHeld => ?_;exact tb;clear hK K;try simp only [zn, Act.put]
       generalize qB_.setRow p17 #[.slice D0 dn0 dd0, .slice D1 dn1 dd1, .slice D2 dn2 dd2, .int .i64 x.near] = qC_ at tb t6 tO hHeld ⊢
       refine tk 11 hHeld ?_
       refine wpAnyH_done (by kernel_rfl) ?_ _
       go_wp2_with fail
       go_meet
       exact ⟨p17, D0, dd0, D1, dd1, D2, dd2, rfl, rfl, t6, tO, PLB.out, tb⟩
      ·go_simp
       have tb := HB.out.alloc HB.out.size (.cells #[.slice none 0 0, .slice none 0 0, .slice none 0 0, .int .i64 0] 47)
       have t6 := heap_alloc_self q0_ (.cells #[.slice none 0 0, .slice none 0 0, .slice none 0 0, .int .i64 0] 47)
       refine hK.out _ _ ?_ fun hHeld => ?_;exact tb;clear hK K;try simp only [zn, Act.put]
       generalize q0_.alloc (.cells #[.slice none 0 0, .slice none 0 0, .slice none 0 0, .int .i64 0] 47) = qA_ at tb t6 hHeld ⊢
       obtain ⟨p17, hp⟩ : ∃ n, n = q0_.heap.size := ⟨_, rfl⟩
       rw [← hp] at t6 ⊢
       have PLB : Hid (wx.heap.size ≤ p17) := Lib.hid (by rw [hp]; exact HB.out.size)
       clear HB hp
       have HB := Lib.hid tb
       have XA_ := Lib.hid t6
       clear tb t6
       refine tkr 5 (fun K hK => ?_)
       go_simp
       refine (hw.of _ p y qA_ ((HPx.out.below HB.out).more HB.out.size)).mono ?_
       rintro e qB_ ⟨u0, u1, u2, rfl, hu_, b⟩
       rw [HXE.out.1] at hu_
       rw [HXE.out.1, HXE.out.2]
       obtain ⟨D0, dd0, rfl⟩ := hu_.path.slice
       obtain ⟨D1, dd1, rfl⟩ := hu_.over.slice
       obtain ⟨D2, dd2, rfl⟩ := hu_.asks.slice
       have hu0 := hu_.mono HB.out.size
       clear hu_
       rw [← HZ.out.1, ← HZ.out.2.1, ← HZ.out.2.2] at hu0 ⊢
       have HB' := Lib.hid (HB.out.trans (b.mono HB.out.size))
       have OU : Hid (WyOwn qB_ wx.heap.size (.slice D0 dn0 dd0) (.slice D1 dn1 dd1) (.slice D2 dn2 dd2) x) := Lib.hid hu0
       clear hu0
       have XB := Lib.hid ((b.block _ (heap_lt XA_.out)).trans XA_.out)
       clear HB XA_
       have HB := HB'
       clear HB' b
       try go_wp2_with fail
       refine hK.out _ _ ?_ fun hHeld => ?_;exact HB.out;clear hK K;try simp only [zn, Act.put]
       refine tk 6 hHeld ?_;refine tk 7 hHeld ?_;refine tk 8 hHeld ?_
       refine tkr 10 (fun K hK => ?_)
       rw [if_pos (by rfl)]
       refine wp_store_rowS 47 (.tmp 17) (.tmp 109) rfl p17 rfl (c' := #[.slice D0 dn0 dd0, .slice D1 dn1 dd1, .slice D2 dn2 dd2, .int .i64 x.near]) rfl XB.out infoWay4 rfl (by simp [Value.oneCell']) ?_
       have tb := below_setRow HB.out PLB.out #[.slice D0 dn0 dd0, .slice D1 dn1 dd1, .slice D2 dn2 dd2, .int .i64 x.near]
       have t6 := setRow_heap _ _ _ #[.slice D0 dn0 dd0, .slice D1 dn1 dd1, .slice D2 dn2 dd2, .int .i64 x.near] _ _ XB.out
       have tO : WyOwn (qB_.setRow p17 #[.slice D0 dn0 dd0, .slice D1 dn1 dd1, .slice D2 dn2 dd2, .int .i64 x.near]) wx.heap.size (.slice D0 dn0 dd0) (.slice D1 dn1 dd1) (.slice D2 dn2 dd2) x := OU.out.offT (grownBy_setRow qB_ p17 #[.slice D0 dn0 dd0, .slice D1 dn1 dd1, .slice D2 dn2 dd2, .int .i64 x.near]) (by decide) (by decide) ⟨_, XB.out⟩
       refine hK.out _ _ ?_ fun hHeld => ?_;exact tb;clear hK K;try simp only [zn, Act.put]
       generalize qB_.setRow p17 #[.slice D0 dn0 dd0, .slice D1 dn1 dd1, .slice D2 dn2 dd2, .int .i64 x.near] = qC_ at tb t6 tO hHeld ⊢
       refine tk 11 hHeld ?_
       refine wpAnyH_done (by kernel_rfl) ?_ _
       go_wp2_with fail
       go_meet
       exact ⟨p17, D0, dd0, D1, dd1, D2, dd2, rfl, rfl, t6, tO, PLB.out, tb⟩
     case rest =>
      obtain ⟨p17, D0, dd0, D1, dd1, D2, dd2, rfl, rfl, hx17, hwo, hpl, hbv⟩ := hcut
      obtain ⟨v2, hv2⟩ : ∃ u, u = wc := ⟨_, rfl⟩
      subst hv2
      obtain ⟨lo, hlo⟩ : ∃ n, n = wx.heap.size := ⟨_, rfl⟩
      rw [← hlo] at hwo hpl LO
      have X17 := Lib.hid hx17
      have WO := Lib.hid hwo
      have PL := Lib.hid hpl
      have LV : Hid (lo ≤ v2.heap.size) := Lib.hid (by rw [hlo]; exact hbv.size)
      have Z1 := Lib.hid ((hbv.block _ (heap_lt Y1.out)).trans Y1.out)
      have Z2 := Lib.hid ((hbv.block _ (heap_lt Y2.out)).trans Y2.out)
      have BV : Hid (Below g1 wB v2) := Lib.hid (BX.out.trans (hbv.mono (by have := LO.out; omega)))
      have ID : Hid (WyIn v2 v2.heap.size (.slice D0 dn0 dd0) (.slice D1 dn1 dd1) (.slice D2 dn2 dd2) x) := Lib.hid hwo.in_
      have hd2 : dn2 ≤ 9223372036854775807 := by
       obtain ⟨_, _, h0, _, h1⟩ := ID.out.asks.slice
       unfold maxLen at h1
       cases h0
       have := HZ.out
       omega
      have ND : Hid (dn0 = x.path.length ∧ dn1 = x.over.length ∧ dn2 = x.asks.length ∧ dn2 ≤ 9223372036854775807) := Lib.hid ⟨HZ.out.1, HZ.out.2.1, HZ.out.2.2, hd2⟩
      have d0 : ((0 : Int) != 0) = false := by decide
      clear hx17 hwo hpl hbv hlo Y1 Y2 XPx HPx GS
      go_upto_region 25 with fail
      clear d0
      obtain ⟨i0, hii, hz0, hzz, hz2⟩ := info_parts infoInt
      have I0 := Lib.hid hii
      have I1 := Lib.hid hz0
      have I2 := Lib.hid hzz
      have I3 := Lib.hid hz2
      clear hii hz0 hzz hz2
      refine wp_region_held_drew (S := fun v => Below v2.heap.size v2 v) (by kernel_rfl) (Below.refl v2.heap.size v2).drew (fun hHeld => ?_)
      refine tk 1 hHeld ?_;refine tkc 2 hHeld (fun w' hSw => cell4_of ((hSw.block _ (heap_lt X17.out)).trans X17.out)) ?_;refine tk 4 hHeld ?_;refine tkc 5 hHeld (fun w' hSw => cell4_of ((hSw.block _ (heap_lt X17.out)).trans X17.out)) ?_
      have tb := (Below.refl v2.heap.size v2).drew
      generalize v2.drew = qa at tb hHeld ⊢
      have HB := Lib.hid tb
      clear tb
      refine tkr 0 (fun K hK => ?_)
      go_simp
      have tb := HB.out.alloc HB.out.size (.cells #[] 3)
      have t0 := heap_alloc_self qa (.cells #[] 3)
      refine hK.out _ _ ?_ fun hHeld => ?_;exact tb;clear hK K;try simp only [zn, Act.put]
      generalize qa.alloc (.cells #[] 3) = qb at tb t0 hHeld ⊢
      obtain ⟨pb, hpb⟩ : ∃ n, n = qa.heap.size := ⟨_, rfl⟩
      rw [← hpb] at t0 ⊢
      have PB : Hid (v2.heap.size ≤ pb) := Lib.hid (by rw [hpb]; exact HB.out.size)
      have T0 := Lib.hid t0
      have HB2 := Lib.hid tb
      clear tb t0 hpb HB
      obtain ⟨Yss, hy1, hy2, hy3, hy4, hy5, hy6, hy7⟩ := ((ID.out.path.below intR HB2.out).more intR HB2.out.size).cells (by omega) intR_full intR_cells
      have Y1 := Lib.hid hy1
      have Y2 := Lib.hid hy2
      have Y3 := Lib.hid hy3
      have Y4 := Lib.hid hy4
      have Y6 := Lib.hid hy6
      have Y7 := Lib.hid hy7
      have YL : Hid (Yss.flatten.length = dn0 * 1) := Lib.hid (by rw [flat_length _ hy2, hy1, ND.out.1])
      clear hy1 hy2 hy3 hy4 hy5 hy6 hy7
      refine tkr 3 (fun K hK => ?_)
      rw [if_pos (by rfl)]
      refine wp_append_list (.tmp 113) (.tmp 115) _ rfl Try.underlying38 I0.out I1.out rfl I2.out (by decide) I3.out (by decide) rfl (base := v2.heap.size) (n := 0) (ys := []) ⟨rfl, .inr ⟨_, _, _, rfl, PB.out, T0.out, Nat.zero_le _, Nat.zero_le _, rfl, rfl⟩⟩ rfl YL.out Y4.out Y7.out Y6.out (by have := NLE.out; have := ND.out; omega) HB2.out.size ?_
      intro v4 w4_ hown4 hgrow4
      rw [Nat.zero_add, List.nil_append] at hown4
      obtain ⟨B4, d4, rfl⟩ := own_sliceN hown4
      have O4 := Lib.hid hown4
      have G4 : Hid (Below v2.heap.size v2 w4_) := Lib.hid (HB2.out.grown hgrow4 HB2.out.size (fun k hk => by cases hk; exact PB.out))
      clear hown4 hgrow4
      refine hK.out _ _ ?_ fun hHeld => ?_;exact G4.out;clear hK K;try simp only [zn, Act.put]
      obtain ⟨Zss, hy1, hy2, hy3, hy4, hy5, hy6, hy7⟩ := ((ID.out.over.below intR G4.out).more intR G4.out.size).cells (by omega) intR_full intR_cells
      have Z1 := Lib.hid hy1
      have Z2 := Lib.hid hy2
      have Z3 := Lib.hid hy3
      have Z4 := Lib.hid hy4
      have Z6 := Lib.hid hy6
      have Z7 := Lib.hid hy7
      have ZL : Hid (Zss.flatten.length = dn1 * 1) := Lib.hid (by rw [flat_length _ hy2, hy1, ND.out.2.1])
      clear hy1 hy2 hy3 hy4 hy5 hy6 hy7
      refine tkr 6 (fun K hK => ?_)
      rw [if_pos (by rfl)]
      refine wp_append_list (.tmp 116) (.tmp 118) _ rfl Try.underlying38 I0.out I1.out rfl I2.out (by decide) I3.out (by decide) rfl O4.out rfl ZL.out Z4.out Z7.out Z6.out (by have := NLE.out; have := ND.out; omega) G4.out.size ?_
      intro v5 wS hown5 hgrow5
      have OC := own_cat (R := IntR) (sz := 1) intF hown5 (by rw [ND.out.1, ND.out.2.1]) Y1.out Z1.out Y2.out Z2.out Y3.out Z3.out (by have := NLE.out; have := ND.out; unfold maxLen; omega)
      obtain ⟨SA, Sc, rfl⟩ := own_sliceN hown5
      obtain ⟨nS, hnl⟩ : ∃ n, n = dn0 + dn1 := ⟨_, rfl⟩
      rw [← hnl] at OC ⊢
      have HS : Hid (nS = (x.path ++ x.over).length ∧ nS ≤ 2000) := Lib.hid (by have := ND.out; have := NLE.out; rw [List.length_append]; omega)
      have OO := Lib.hid OC
      have LS : Hid (IntsIn wS wS.heap.size (.slice SA nS Sc) (x.path ++ x.over)) := Lib.hid (OC.in_ intR_cells)
      have BS : Hid (Below v2.heap.size v2 wS) := Lib.hid (G4.out.grown hgrow5 G4.out.size (own_ge O4.out))
      clear OC hown5 hgrow5 hnl
      refine hK.out _ _ ?_ fun hHeld => ?_;exact BS.out;clear hK K;try simp only [zn, Act.put]
      refine tk 7 hHeld ?_
      refine wpAnyH_done (by kernel_rfl) ?_ _
      clear G4 O4 HB2 T0 PB Y1 Y2 Y3 Y4 Y6 Y7 YL Z1 Z2 Z3 Z4 Z6 Z7 ZL I0 I1 I2 I3
      have ST0 : Hid (StF wS g1 g2 p17 lo #[.slice D0 dn0 dd0, .slice D1 dn1 dd1, .slice D2 dn2 dd2, .int .i64 x.near] (.slice SA nS Sc) (.slice D0 dn0 dd0) (.slice D1 dn1 dd1) (.slice D2 dn2 dd2) (secsW x) x f g) := Lib.hid ⟨(BS.out.block _ (heap_lt Z1.out)).trans Z1.out, (BS.out.block _ (heap_lt Z2.out)).trans Z2.out, (BS.out.block _ (heap_lt X17.out)).trans X17.out, OO.out.mono LV.out, WO.out.below BS.out⟩
      have BS0 : Hid (Below g1 wB wS) := Lib.hid (BV.out.trans (BS.out.mono (by have := LO.out; have := LV.out; omega)))
      have HSS : Hid (nS = (secsW x).length ∧ nS ≤ 2000) := Lib.hid HS.out
      clear HS LS OO BS Z1 Z2 X17 WO BV ID
      have hs64 : nS ≤ 2000 := HSS.out.2
      go_wp2_with fail
      go_loopw [20] (fun s20 wz => ∃ (k : Nat) (f : Nat → Int), k ≤ nS ∧ s20 = .int .i64 k ∧ HeldF p L i ((secsW x).take k) f ∧ StF wz g1 g2 p17 lo #[.slice D0 dn0 dd0, .slice D1 dn1 dd1, .slice D2 dn2 dd2, .int .i64 x.near] (.slice SA nS Sc) (.slice D0 dn0 dd0) (.slice D1 dn1 dd1) (.slice D2 dn2 dd2) (secsW x) x f g ∧ Below g1 wB wz) (fun s20 _ => nS - (intOf s20).toNat)
      case atStart => exact ⟨0, f, by omega, by go_num, HF.out, ST0.out, BS0.out⟩
      case round =>
       obtain ⟨wz, hwz⟩ : ∃ u, u = wr := ⟨_, rfl⟩
       subst hwz
       obtain ⟨k, f4, hk, rfl, hf4, hst, hb4⟩ := hrel
       have HF4 := Lib.hid hf4
       have ST4 := Lib.hid hst
       have B4 := Lib.hid hb4
       clear hf4 hst hb4
       by_cases hlk : k < nS
       ·have hlk' : (k : Int) < nS := by omega
        have hkl : k < (secsW x).length := by rw [← HSS.out.1]; exact hlk
        obtain ⟨s_, hs1, hs2⟩ : ∃ s : Nat, s < 100 ∧ (secsW x)[k] = (s : Int) := by
         have hx := HX.out
         subst hx
         exact free_sec HSN.out FR.out HIL.out hkl
        have hf0 : f4 s_ = 0 := by
         have hx := HX.out
         subst hx
         exact held_free HSN.out FR.out HIL.out hkl hs2 HF4.out
        have hsg : (secsW x).getD k 0 = (s_ : Int) := by rw [List.getD, List.getElem?_eq_getElem hkl, hs2]; rfl
        obtain ⟨ba, oa, e3, -, hq3⟩ := ints_getD (ST4.out.all.in_ intR_cells) hkl
        cases e3
        rw [hsg] at hq3
        obtain ⟨y2, hy2⟩ : ∃ z, L.getD i 0 = z := ⟨_, rfl⟩
        obtain ⟨b9, o9, e4, hb9, hq4⟩ := ints_getD (INB.out.below intR B4.out) HIL.out
        cases e4
        rw [hy2] at hq4
        have HN := Lib.hid (held_set y2 hkl hs2 HF4.out)
        have GA0 := Lib.hid hq3
        have GB0 := Lib.hid hq4
        have NE : Hid (ba ≠ g1 ∧ bs ≠ g1 ∧ g1 < lo ∧ g2 ≠ g1 ∧ p17 ≠ g1) := Lib.hid (by
         have h1 := own_lo ST4.out.all ba rfl
         have h2 := LO.out
         have h3 := GG.out
         have h4 := PL.out
         omega)
        have c0 : wz.cell? ⟨g1, s_, none⟩ = some (.int .i64 0) := by rw [lie_cell ST4.out.h1 hs1, hf0]
        have d0 : ((0 : Int) != 0) = false := by decide
        have hq5 : (s_ : Int) < 100 := by omega
        have hq6 : (0 : Int) ≤ (s_ : Int) := by omega
        have hk64 : k ≤ 2000 := by omega
        clear hs2 hf0 hsg hy2 hb9
        go_upto_region 31 with fail
        clear c0 d0 hq3 hq4
        refine wp_region_held_drew (S := fun v => v.heap[ba]? = wz.heap[ba]? ∧ v.heap[bs]? = wz.heap[bs]?) (by kernel_rfl) ⟨rfl, rfl⟩ (fun hHeld => ?_)
        refine tk 0 hHeld ?_;refine tk 1 hHeld ?_;refine tk 2 hHeld ?_;refine tk 3 hHeld ?_;refine tkc 4 hHeld (fun w' hSw => (World.cell?_of_block (a := ⟨ba, oa + k, none⟩) hSw.1).trans GA0.out) ?_;refine tk 5 hHeld ?_;refine tk 6 hHeld ?_;refine tk 7 hHeld ?_;refine tkc 8 hHeld (fun w' hSw => (World.cell?_of_block (a := ⟨bs, os + i, none⟩) hSw.2).trans GB0.out) ?_;refine tk 9 hHeld ?_
        have tST : StF wz.drew g1 g2 p17 lo #[.slice D0 dn0 dd0, .slice D1 dn1 dd1, .slice D2 dn2 dd2, .int .i64 x.near] (.slice (some ⟨ba, oa, none⟩) nS Sc) (.slice D0 dn0 dd0) (.slice D1 dn1 dd1) (.slice D2 dn2 dd2) (secsW x) x f4 g := ST4.out.below (Below.refl wz.heap.size wz).drew
        have tB : Below g1 wB wz.drew := B4.out.drew
        have tS : wz.drew.heap[ba]? = wz.heap[ba]? ∧ wz.drew.heap[bs]? = wz.heap[bs]? := ⟨rfl, rfl⟩
        generalize wz.drew = q0 at tST tB tS hHeld ⊢
        have cs := lie_cell tST.h1 hs1
        have fs := frozen2_of tST.h1 s_
        refine tkr 10 (fun K hK => ?_)
        rw [if_pos (by rfl)]
        go_simp
        refine hK.out _ _ ?_ fun hHeld => ?_;exact ⟨(heap_setFar q0 _ _ _ _ NE.out.1).trans tS.1, (heap_setFar q0 _ _ _ _ NE.out.2.1).trans tS.2⟩;clear hK K;try simp only [zn, Act.put]
        refine wpAnyH_done (by kernel_rfl) ?_ _
        have tX := tST.set1 NE.out.2.2.1 NE.out.2.2.2.1 NE.out.2.2.2.2 hs1 y2
        have tB2 := below_set tB (Nat.le_refl g1) s_ (.int .i64 y2)
        generalize q0.setCell ⟨g1, s_, none⟩ (.int .i64 y2) = q2 at tX tB2 ⊢
        have TX := Lib.hid tX
        have TB2 := Lib.hid tB2
        clear tX tB2 tST tB tS cs fs
        go_wp2_with fail
        go_roundw
        case measure => simp [intOf]; omega
        case rel => exact ⟨k + 1, _, by omega, by go_num, HN.out, TX.out, TB2.out⟩
       ·obtain rfl : nS = k := by omega
        have hlk' : ¬ (nS : Int) < nS := by omega
        have HF5 : Hid (HeldF p L (i + 1) [] f4) := Lib.hid (by
         have h := HF4.out
         rw [HSS.out.1, List.take_length] at h
         have hx := HX.out
         subst hx
         exact held_next h)
        clear hlk hs64
        have hd64 : dn2 ≤ 9223372036854775807 := ND.out.2.2.2
        go_wp2_with fail
        go_loopw [21] (fun s21 wz => ∃ (k : Nat) (g : Nat → Int), k ≤ dn2 ∧ s21 = .int .i64 k ∧ LieF p L i (x.asks.take k) g ∧ StF wz g1 g2 p17 lo #[.slice D0 dn0 dd0, .slice D1 dn1 dd1, .slice D2 dn2 dd2, .int .i64 x.near] (.slice SA nS Sc) (.slice D0 dn0 dd0) (.slice D1 dn1 dd1) (.slice D2 dn2 dd2) (secsW x) x f4 g ∧ Below g1 wB wz) (fun s21 _ => dn2 - (intOf s21).toNat)
        case atStart => exact ⟨0, g, by omega, by go_num, HG.out, ST4.out, B4.out⟩
        case round =>
         obtain ⟨wv, hwv⟩ : ∃ u, u = wr := ⟨_, rfl⟩
         subst hwv
         obtain ⟨m, g5, hm, rfl, hg5, hst, hb5⟩ := hrel
         have HG5 := Lib.hid hg5
         have ST5 := Lib.hid hst
         have B5 := Lib.hid hb5
         clear hg5 hst hb5
         obtain ⟨k0, k1, k2, k3⟩ := cell4_of ST5.out.bx
         by_cases hlm : m < dn2
         ·have hlm' : (m : Int) < dn2 := by omega
          have hml : m < x.asks.length := by rw [← HZ.out.2.2]; exact hlm
          obtain ⟨e1, e2, e3, hke⟩ : ∃ a b c, x.asks[m] = (a, b, c) := ⟨_, _, _, rfl⟩
          obtain ⟨s_, hs1, hs2⟩ : ∃ s : Nat, s < 100 ∧ x.asks[m].1 = (s : Int) := by
           have hx := HX.out
           subst hx
           exact free_ask HSN.out FR.out HIL.out hml
          have hz : g5 s_ = 0 ∨ g5 s_ = x.asks[m].2.1 := by
           have hx := HX.out
           subst hx
           exact lie_free HSN.out FR.out HIL.out hml hs2 HG5.out
          have hn := lie_set hml hs2 HG5.out
          obtain ⟨bk, ok, e6, -, hc0, hc1, hc2⟩ := (ST5.out.way.asks.in_ sigR_cells).at hml
          cases e6
          rw [hke] at hs2 hz hn hc0 hc1 hc2
          have hs3 : e1 = (s_ : Int) := hs2
          subst hs3
          have HN5 := Lib.hid hn
          have HZ5 : Hid (g5 s_ = 0 ∨ g5 s_ = e2) := Lib.hid hz
          have g0 : wv.cell? ⟨bk, ok + m * 3, none⟩ = some (.int .i64 (s_ : Int)) := hc0
          have g1_ : wv.cell? ⟨bk, ok + m * 3 + 1, none⟩ = some (.int .i64 e2) := hc1
          have g2_ : wv.cell? ⟨bk, ok + m * 3 + 2, none⟩ = some (.int .i64 e3) := hc2
          have NE5 : Hid (g2 < lo ∧ g1 ≠ g2 ∧ p17 ≠ g2 ∧ g1 ≤ g2) := Lib.hid (by
           have h2 := LO.out
           have h3 := GG.out
           have h4 := PL.out
           omega)
          have hq5 : (s_ : Int) < 100 := by omega
          have hq6 : (0 : Int) ≤ (s_ : Int) := by omega
          clear hke hs2 hz hn hc0 hc1 hc2
          have XX0 := heap_alloc_self wv (.cells #[.int .i64 0, .int .i64 0, .int .i64 0] 51)
          have hb6 := below_setRow (below_new wv (.cells #[.int .i64 0, .int .i64 0, .int .i64 0] 51)) (Nat.le_refl _) #[.int .i64 (s_ : Int), .int .i64 e2, .int .i64 e3]
          have hx6 := setRow_heap (wv.alloc (.cells #[.int .i64 0, .int .i64 0, .int .i64 0] 51)) wv.heap.size _ #[.int .i64 (s_ : Int), .int .i64 e2, .int .i64 e3] 51 _ XX0
          go_upto_region 36 with ((with_reducible show wpList _ _ _ (⟨none, _, _, _, _, _⟩ :: _) _ _); refine wpList_store_rowS rfl _ (.tmp 22) (.tmp 155) rfl wv.heap.size rfl (c' := #[.int .i64 (s_ : Int), .int .i64 e2, .int .i64 e3]) rfl XX0 infoAskF rfl (by simp [Value.oneCell']) ?_)
          generalize (wv.alloc (.cells #[.int .i64 0, .int .i64 0, .int .i64 0] 51)).setRow wv.heap.size #[.int .i64 (s_ : Int), .int .i64 e2, .int .i64 e3] = q5 at hb6 hx6 ⊢
          obtain ⟨p22, hp22⟩ : ∃ n, n = wv.heap.size := ⟨_, rfl⟩
          have ST6 := Lib.hid (ST5.out.below hb6)
          have B6 := Lib.hid (B5.out.trans (hb6.mono (by have := heap_lt ST5.out.h1; omega)))
          rw [← hp22] at hx6 ⊢
          have X22 := Lib.hid hx6
          clear hb6 hx6 XX0 hp22 k0 k1 k2 k3 g0 g1_ g2_
          obtain ⟨m0, m1, m2⟩ := cell3_of X22.out
          have c0 := lie_cell ST6.out.h2 hs1
          by_cases hz0 : g5 s_ = 0
          ·rw [hz0] at c0
           have d1 : ((0 : Int) != 0) = false := by decide
           clear hz0
           refine wp_region_held_drew (S := fun v => Below q5.heap.size q5 v) (by kernel_rfl) (Below.refl q5.heap.size q5).drew (fun hHeld => ?_)
           refine tk 0 hHeld ?_;refine tk 1 hHeld ?_;refine tkc 2 hHeld (fun w' hSw => (hSw.cell (cell_lt m0)).trans m0) ?_;refine tk 3 hHeld ?_;refine tkc 4 hHeld (fun w' hSw => (hSw.cell (cell_lt c0)).trans c0) ?_;refine tk 5 hHeld ?_;refine tk 6 hHeld ?_;refine tks 7 hHeld ?_;refine tks 8 hHeld ?_;refine tks 9 hHeld ?_;refine tks 10 hHeld ?_;refine tks 11 hHeld ?_;refine tks 12 hHeld ?_;refine tks 13 hHeld ?_;refine tks 14 hHeld ?_;refine tk 15 hHeld ?_
           refine wpAnyH_done (by kernel_rfl) ?_ _
           have hdb := (Below.refl q5.heap.size q5).drew
           generalize q5.drew = v3 at hdb ⊢
           have ST7 := Lib.hid (ST6.out.below hdb)
           have B7 := Lib.hid (B6.out.trans (hdb.mono (by have := heap_lt ST6.out.h1; omega)))
           have X7 := Lib.hid ((hdb.block _ (heap_lt X22.out)).trans X22.out)
           clear hdb m0 m1 m2 c0
           obtain ⟨m0, m1, m2⟩ := cell3_of X7.out
           have cs := lie_cell ST7.out.h2 hs1
           have fs := frozen2_of ST7.out.h2 s_
           go_wp2_with fail
           go_roundw
           case measure => simp [intOf]; omega
           case rel => exact ⟨m + 1, _, by omega, by go_num, HN5.out, ST7.out.set2 NE5.out.1 NE5.out.2.1 NE5.out.2.2.1 hs1 e2, below_set B7.out NE5.out.2.2.2 s_ _⟩
          ·have hz1 : g5 s_ = e2 := by
            rcases HZ5.out with h | h
            ·exact absurd h hz0
            ·exact h
           rw [hz1] at c0 hz0
           have d1 : (e2 != 0) = true := by simpa using hz0
           have d2 : (e2 != e2) = false := by simp
           clear hz0 hz1
           refine wp_region_held_drew (S := fun v => Below q5.heap.size q5 v) (by kernel_rfl) (Below.refl q5.heap.size q5).drew (fun hHeld => ?_)
           refine tk 0 hHeld ?_;refine tk 1 hHeld ?_;refine tkc 2 hHeld (fun w' hSw => (hSw.cell (cell_lt m0)).trans m0) ?_;refine tk 3 hHeld ?_;refine tkc 4 hHeld (fun w' hSw => (hSw.cell (cell_lt c0)).trans c0) ?_;refine tk 5 hHeld ?_;refine tk 6 hHeld ?_;refine tk 7 hHeld ?_;refine tk 8 hHeld ?_;refine tkc 9 hHeld (fun w' hSw => (hSw.cell (cell_lt m0)).trans m0) ?_;refine tk 10 hHeld ?_;refine tkc 11 hHeld (fun w' hSw => (hSw.cell (cell_lt c0)).trans c0) ?_;refine tk 12 hHeld ?_;refine tkc 13 hHeld (fun w' hSw => (hSw.cell (cell_lt m1)).trans m1) ?_;refine tk 14 hHeld ?_;refine tk 15 hHeld ?_
           refine wpAnyH_done (by kernel_rfl) ?_ _
           have hdb := (Below.refl q5.heap.size q5).drew
           generalize q5.drew = v3 at hdb ⊢
           have ST7 := Lib.hid (ST6.out.below hdb)
           have B7 := Lib.hid (B6.out.trans (hdb.mono (by have := heap_lt ST6.out.h1; omega)))
           have X7 := Lib.hid ((hdb.block _ (heap_lt X22.out)).trans X22.out)
           clear hdb m0 m1 m2 c0
           obtain ⟨m0, m1, m2⟩ := cell3_of X7.out
           have cs := lie_cell ST7.out.h2 hs1
           have fs := frozen2_of ST7.out.h2 s_
           go_wp2_with fail
           go_roundw
           case measure => simp [intOf]; omega
           case rel => exact ⟨m + 1, _, by omega, by go_num, HN5.out, ST7.out.set2 NE5.out.1 NE5.out.2.1 NE5.out.2.2.1 hs1 e2, below_set B7.out NE5.out.2.2.2 s_ _⟩
         ·obtain rfl : dn2 = m := by omega
          have hlm' : ¬ (dn2 : Int) < dn2 := by omega
          have HG6 : Hid (LieF p L (i + 1) [] g5) := Lib.hid (by
           have h := HG5.out
           rw [HZ.out.2.2, List.take_length] at h
           have hx := HX.out
           subst hx
           exact lie_next h)
          clear hlm
          go_wp2_with fail
          go_roundw
          case measure => simp [intOf]; omega
          case rel => exact ⟨i + 1, f4, g5, by omega, by go_num, HF5.out, HG6.out, ST5.out.h1, ST5.out.h2, B5.out⟩
    ·obtain rfl : k_ = i := by omega
     have hlt' : ¬ (k_ : Int) < k_ := by omega
     have BL := Lib.hid (BZB.out.trans (BX.out.mono GG.out.2.2))
     go_wp2_with fail
     go_ret
     exact ⟨rfl, BL.out⟩
end Go.Proofs.Ytebffdfimmbbdaa
