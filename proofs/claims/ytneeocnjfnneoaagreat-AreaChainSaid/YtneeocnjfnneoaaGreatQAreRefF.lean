/-
 The document's own package area: what a route uses.
 Conditions: none.
-/
import Derived.Test.YtneeocnjfnneoaaGreatQAreRefE
set_option linter.unusedVariables false
set_option linter.unusedSimpArgs false
set_option maxRecDepth 100000
namespace Go.Proofs.YtneeocnjfnneoaaGreat
open Go.RowKit

theorem sec_spot {p : Pl} (h : PlanMay p) {r : Rt} (hr : r ∈ p.routes) {s : Int} (hs : s ∈ secsU p r) : ∃ (k : Nat) (hk : k < p.secs.length), atS p.secs s = (k : Int) ∧ p.secs[k].1 = s ∧ p.secs[k].2.1 = ptOfD p s := by
 obtain ⟨x, hx, he⟩ := secsU_there h hr hs
 rw [atS_at1]
 rcases at1_cases (fun s : Sec => s.1) p.secs s with ⟨-, h2⟩ | ⟨k, hk, h1, h2, -⟩
 ·obtain ⟨j, hj, e⟩ := List.getElem_of_mem hx
  exact absurd (by rw [e]; exact he) (h2 j hj)
 ·exact ⟨k, hk, h1, h2, by rw [ptOfD, atS_at1, h1, Int.toNat_natCast, List.getD, List.getElem?_eq_getElem hk, Option.getD_some]⟩
theorem flank_spot {p : Pl} (h : PlanMay p) {r : Rt} (hr : r ∈ p.routes) {i : Nat} (hi : i < r.flanks.length) : ∃ (k : Nat) (hk : k < p.pts.length), at1 (fun x : Jn => x.1) p.pts r.flanks[i].1 = (k : Int) ∧ p.pts[k].2 = secOfD p r.flanks[i].1 := by
 obtain ⟨j, hj, e⟩ := List.getElem_of_mem hr
 have hm := (h.each j hj).2.2
 rw [e] at hm
 have h0 := (hm.flanks i hi).1
 rcases at1_cases (fun x : Jn => x.1) p.pts r.flanks[i].1 with ⟨h1, -⟩ | ⟨k, hk, h1, -, -⟩
 ·omega
 ·exact ⟨k, hk, h1, by rw [secOfD, h1, Int.toNat_natCast, List.getD, List.getElem?_eq_getElem hk, Option.getD_some]⟩
def flU (p : Pl) (r : Rt) (i : Nat) : List Int := r.path ++ r.over ++ (r.flanks.take i).map fun f => secOfD p f.1
theorem flU_snoc (p : Pl) (r : Rt) {i : Nat} (hi : i < r.flanks.length) : flU p r (i + 1) = flU p r i ++ [secOfD p r.flanks[i].1] := by
 have e : r.flanks.take (i + 1) = r.flanks.take i ++ [r.flanks[i]] := by simp
 rw [flU, e, List.map_append, ← List.append_assoc]
 rfl
theorem flU_len (p : Pl) (r : Rt) {i : Nat} (hi : i ≤ r.flanks.length) : (flU p r i).length = r.path.length + r.over.length + i := by
 rw [flU, List.length_append, List.length_append, List.length_map, List.length_take, Nat.min_eq_left hi]
theorem flU_all (p : Pl) (r : Rt) : flU p r r.flanks.length = secsU p r := by rw [flU, List.take_length]; rfl
theorem infoSec14 : (Tryz.prog.info? 67).map (·.size) = some 3 := by kernel_rfl
set_option maxHeartbeats 16000000 in
theorem rused14_any (v y : Value) (p : Pl) (r : Rt) (w : World) (h : PlanV w w.heap.size v p) (h' : RouteV w w.heap.size y r) (hp : PlanMay p) (hr : r ∈ p.routes) :
  Calls Tryz.prog 43 #[v, y] w fun e w' => ∃ u0 u1 u2 u3, e = .returned (.agg #[u0, u1, u2, u3]) ∧ ArOwn w' w.heap.size u0 u1 u2 u3 (usedA p r) ∧ Below w.heap.size w w' := by
 have HP := Lib.hid hp
 have HR := Lib.hid hr
 have RM : Hid (RouteMay p r) := Lib.hid (by
  obtain ⟨j, hj, e⟩ := List.getElem_of_mem hr
  have hm := (hp.each j hj).2.2
  rwa [e] at hm)
 clear hp hr
 obtain ⟨u2, u3, u4, u5, rfl, hin⟩ := h
 obtain ⟨z3, z4, z5, rfl, hin'⟩ := h'
 obtain ⟨AS, cS, rfl, hS8, hS9⟩ := hin.secs.slice
 obtain ⟨AP, cP, rfl, hP8, hP9⟩ := hin.pts.slice
 obtain ⟨AF, cF, rfl, -, -⟩ := hin'.flanks.slice
 obtain ⟨nS, hnS⟩ : ∃ n, n = p.secs.length := ⟨_, rfl⟩
 obtain ⟨nP, hnP⟩ : ∃ n, n = p.pts.length := ⟨_, rfl⟩
 obtain ⟨nF, hnF⟩ : ∃ n, n = r.flanks.length := ⟨_, rfl⟩
 have NS : Hid (nS = p.secs.length ∧ nS ≤ 9223372036854775807) := Lib.hid ⟨hnS, by unfold maxLen at hS9; omega⟩
 have NP : Hid (nP = p.pts.length ∧ nP ≤ 9223372036854775807) := Lib.hid ⟨hnP, by unfold maxLen at hP9; omega⟩
 have NF : Hid (nF = r.flanks.length ∧ nF ≤ 3) := Lib.hid ⟨hnF, by rw [hnF]; exact RM.out.flank⟩
 rw [← hnS, ← hnP] at hin ⊢
 rw [← hnF] at hin' ⊢
 clear hnS hnP hnF hS8 hP8 hS9 hP9
 obtain ⟨q3, hq, h0, h1, h2, hsz, hqb⟩ := boxes3 w (.cells #[.int .i64 p.ver, .int .i64 p.par, .slice AS nS cS, .slice AP nP cP, u4, u5] 33) (.cells #[.int .i64 r.id, .int .i64 r.entry, .int .i64 r.exit, z3, z4, .slice AF nF cF, .int .i64 r.timer] 54) (.cells #[.slice none 0 0, .slice none 0 0, .slice none 0 0, .slice none 0 0] 24)
 go_enter Tryz.func43, Tryz.ntmps43
 go_upto_region 2 with fail
 rw [← hq]
 have bn := below_new q3 (.cells #[.slice none 0 0, .slice none 0 0, .slice none 0 0, .slice none 0 0] 24)
 have X0 := Lib.hid ((bn.block _ (heap_lt h0)).trans h0)
 have X1 := Lib.hid ((bn.block _ (heap_lt h1)).trans h1)
 have X4 := Lib.hid ((bn.block _ (heap_lt h2)).trans h2)
 have h5 := heap_alloc_self q3 (.cells #[.slice none 0 0, .slice none 0 0, .slice none 0 0, .slice none 0 0] 24)
 have hqb2 := hqb.trans (bn.mono hqb.size)
 have hsz2 : (q3.alloc (.cells #[.slice none 0 0, .slice none 0 0, .slice none 0 0, .slice none 0 0] 24)).heap.size = q3.heap.size + 1 := by unfold World.alloc; exact Array.size_push ..
 generalize q3.alloc (.cells #[.slice none 0 0, .slice none 0 0, .slice none 0 0, .slice none 0 0] 24) = q at X0 X1 X4 h5 hqb2 hsz2 ⊢
 obtain ⟨p5, hp⟩ : ∃ n, n = w.heap.size + 1 + 1 + 1 := ⟨_, rfl⟩
 rw [show q3.heap.size = p5 by omega] at h5 hsz2
 rw [← hp]
 have PL : Hid (w.heap.size ≤ p5) := Lib.hid (by omega)
 have PX : Hid (p5 ≤ q.heap.size) := Lib.hid (by omega)
 have PQ : Hid (w.heap.size ≤ q.heap.size) := Lib.hid (by omega)
 have PLT : Hid (w.heap.size < p5 ∧ w.heap.size + 1 < p5) := Lib.hid (by omega)
 have P4 : Hid (w.heap.size + 1 + 1 < p5) := Lib.hid (by omega)
 have IP := Lib.hid (hin.below hqb2)
 have IR := Lib.hid (hin'.below hqb2)
 have BQ := Lib.hid hqb2
 have AB0 : Hid (ArBox q (p5 + 1) p5 (.slice none 0 0) (.slice none 0 0) (.slice none 0 0) (.slice none 0 0) noAr) := Lib.hid ⟨h5, by omega, by omega, ownNo q _⟩
 clear hq h0 h1 h2 hsz hqb bn h5 hqb2 hsz2 hp hin hin' q3
 obtain ⟨k0, k1, k2, k3, k4, k5, k6⟩ := cell7_of X1.out
 go_upto_region 3 with (go_at_call 72; refine (rwith14_own (.slice none 0 0) [] r.id (p5 + 1) q ListOwn.nil_ (by simp) AB0.out.size).mono ?_; rintro e v2 ⟨gr, rfl, h_, b_⟩; obtain ⟨Ar_, nr, cr, rfl⟩ := own_sl h_; have AB1 := Lib.hid (AB0.out.below b_); have OG := Lib.hid h_; have BL := Lib.hid (b_.mono PX.out); obtain ⟨f0, f1, f2, f3⟩ := cell4A AB1.out.row; have fz := frozen2_of AB1.out.row 3; clear h_ b_ AB0 k0 k1 k2 k3 k4 k5 k6)
 have tA := AB1.out.set3 OG.out
 have tb := BL.out.trans (AB1.out.kept 3 (.slice Ar_ nr cr))
 generalize v2.setCell ⟨p5, 3, none⟩ (.slice Ar_ nr cr) = v3 at tA tb ⊢
 clear AB1 BL OG f0 f1 f2 f3 fz v2
 have BL := Lib.hid tb
 have AB := Lib.hid tA
 clear tb tA
 refine wp_region_held_drew (S := fun v => Below p5 q v) (by kernel_rfl) BL.out.drew (fun hHeld => ?_)
 refine tk 0 hHeld ?_;refine tkc 1 hHeld (fun w' hSw => cell7_of ((hSw.block _ PLT.out.2).trans X1.out)) ?_;refine tk 3 hHeld ?_;refine tkc 4 hHeld (fun w' hSw => cell7_of ((hSw.block _ PLT.out.2).trans X1.out)) ?_
 have tb := BL.out.drew
 have tA := AB.out.below (Below.refl v3.heap.size v3).drew
 generalize v3.drew = V0 at tb tA hHeld ⊢
 clear AB BL
 have BL := Lib.hid tb
 have AB := Lib.hid tA
 clear tb tA v3
 refine tkr 2 (fun K hK => ?_)
 go_simp
 refine (rwith14_own (.slice none 0 0) [] r.entry (p5 + 1) V0 ListOwn.nil_ (by simp) AB.out.size).mono ?_
 rintro e V1 ⟨g2, rfl, h2, b⟩
 have tb := BL.out.trans (b.mono (Nat.le_trans PX.out BL.out.size))
 have tA := AB.out.below b
 have OG := Lib.hid h2
 clear AB BL h2 b
 have BL := Lib.hid tb
 have AB := Lib.hid tA
 clear tb tA
 try go_wp2_with fail
 refine hK.out _ _ ?_ fun hHeld => ?_;exact BL.out;clear hK K;try simp only [zn, Act.put]
 refine tkr 5 (fun K hK => ?_)
 go_simp
 refine (rwith14_own g2 (withL [] r.entry) r.exit (p5 + 1) V1 OG.out (Nat.le_trans (with_len _ _) (by simp)) AB.out.size).mono ?_
 rintro e V2 ⟨g3, rfl, h2, b⟩
 obtain ⟨Ag, ng, cg, rfl⟩ := own_sl h2
 have tb := BL.out.trans (b.mono (Nat.le_trans PX.out BL.out.size))
 have tA := AB.out.below b
 clear AB BL OG
 have OG := Lib.hid h2
 clear h2 b
 have BL := Lib.hid tb
 have AB := Lib.hid tA
 clear tb tA
 try go_wp2_with fail
 refine hK.out _ _ ?_ fun hHeld => ?_;exact BL.out;clear hK K;try simp only [zn, Act.put]
 refine tk 6 hHeld ?_
 obtain ⟨c0, c1, c2, c3⟩ := cell4A AB.out.row
 have fz := frozen2_of AB.out.row 2
 have tA := AB.out.set2 OG.out
 have tb := BL.out.trans (AB.out.kept 2 (.slice Ag ng cg))
 refine tkr 7 (fun K hK => ?_)
 rw [if_pos (by rfl)]
 go_simp
 refine hK.out _ _ ?_ fun hHeld => ?_;exact tb;clear hK K;try simp only [zn, Act.put]
 generalize V2.setCell ⟨p5, 2, none⟩ (.slice Ag ng cg) = v4 at tA tb hHeld ⊢
 clear AB BL OG fz c0 c1 c2 c3
 have BL := Lib.hid tb
 have AB := Lib.hid tA
 clear tb tA
 refine wpAnyH_done (by kernel_rfl) ?_ _
 obtain ⟨k0, k1, k2, k3, k4, k5, k6⟩ := cell7_of ((BL.out.block _ PLT.out.2).trans X1.out)
 have VR : Hid (RouteV v4 v4.heap.size (.agg #[.int .i64 r.id, .int .i64 r.entry, .int .i64 r.exit, z3, z4, .slice AF nF cF, .int .i64 r.timer]) r) := Lib.hid ⟨_, _, _, rfl, (IR.out.below (BL.out.mono PL.out)).more (Nat.le_trans PQ.out BL.out.size)⟩
 go_upto_region 6 with (go_at_call 73; refine (rsections_any (.agg #[.int .i64 r.id, .int .i64 r.entry, .int .i64 r.exit, z3, z4, .slice AF nF cF, .int .i64 r.timer]) r v4 VR.out (by have := RM.out.path; omega) (by have := RM.out.over; omega)).mono ?_; rintro e v5 ⟨ul, rfl, hl, b_⟩; have LO := Lib.hid hl; have tb := Lib.hid (BL.out.trans (b_.mono (Nat.le_trans PX.out BL.out.size))); have SB := Lib.hid b_; have P5V := Lib.hid AB.out.lt; clear BL VR hl b_ k0 k1 k2 k3 k4 k5 k6)
 have BL5 := tb
 clear tb
 obtain ⟨lo4, hlo⟩ : ∃ n, n = v4.heap.size := ⟨_, rfl⟩
 rw [← hlo] at LO SB
 have P54 : Hid (p5 < lo4) := Lib.hid (by rw [hlo]; exact P5V.out)
 have L45 : Hid (lo4 ≤ v5.heap.size) := Lib.hid (by rw [hlo]; exact SB.out.size)
 have AB4 : Hid (∀ W, Below lo4 v5 W → ArBox W (p5 + 1) p5 (.slice none 0 0) (.slice none 0 0) (.slice Ag ng cg) (.slice Ar_ nr cr) ⟨[], [], withL (withL [] r.entry) r.exit, withL [] r.id⟩) := Lib.hid fun W hb => AB.out.below (by rw [← hlo]; exact SB.out.trans hb)
 have hnF9 : nF ≤ 3 := NF.out.2
 clear hlo SB P5V AB
 obtain ⟨AL, nL, cL, rfl⟩ := own_sl LO.out
 go_loopw [6, 7] (fun s6 s7 wr => ∃ (i m c : Nat) (A : Option Addr), s7 = .int .i64 i ∧ i ≤ nF ∧ s6 = .slice A m c ∧ m = r.path.length + r.over.length + i ∧ IntsOwn wr lo4 (.slice A m c) (flU p r i) ∧ Below lo4 v5 wr) (fun _ s7 _ => nF - (intOf s7).toNat)
 case atStart => exact ⟨0, nL, cL, AL, by go_num, by omega, rfl, by rw [own_len LO.out, List.length_append]; rfl, by simpa [flU] using LO.out, Below.refl _ _⟩
 case round =>
  obtain ⟨i, m, c, A, rfl, hi, rfl, hm, ho, hb⟩ := hrel
  have HO := Lib.hid ho
  have BW := Lib.hid hb
  have HM : Hid (m = (flU p r i).length) := Lib.hid (own_len ho)
  have HM2 := Lib.hid hm
  clear ho hb hm LO
  have BQW : Hid (Below p5 q wr) := Lib.hid (BL5.out.trans (BW.out.mono (Nat.le_of_lt P54.out)))
  obtain ⟨c0, c1, c2, c3, c4, c5, c6⟩ := cell7_of ((BQW.out.block _ PLT.out.2).trans X1.out)
  by_cases hlt : i < nF
  ·have hlt' : (i : Int) < nF := by omega
   have hir : i < r.flanks.length := by have := NF.out; omega
   obtain ⟨bf, of_, rfl, hbf, hf⟩ := IR.out.flanks.at hir
   obtain ⟨kp, hkp, hat, hval⟩ := flank_spot HP.out HR.out hir
   obtain ⟨bp, op, rfl, hbp, hpp⟩ := IP.out.pts.at hkp
   obtain ⟨x, hx⟩ : ∃ x, x = r.flanks[i].1 := ⟨_, rfl⟩
   obtain ⟨sx, hsx⟩ : ∃ x, x = p.pts[kp].2 := ⟨_, rfl⟩
   rw [← hx] at hat hval
   have FS : Hid (flU p r (i + 1) = flU p r i ++ [sx]) := Lib.hid (by rw [flU_snoc p r hir, hsx, hval, hx])
   have HF0 : Hid (q.cell? ⟨bf, of_ + i * 2, none⟩ = some (.int .i64 x) ∧ bf < p5) := Lib.hid ⟨by rw [hx]; simpa [JoinR] using hf.1, Nat.lt_of_lt_of_le hbf PL.out⟩
   have HPP : Hid (q.cell? ⟨bp, op + kp * 2 + 1, none⟩ = some (.int .i64 sx) ∧ bp < p5) := Lib.hid ⟨by rw [hsx]; simpa [JoinR] using hpp.2, Nat.lt_of_lt_of_le hbp PL.out⟩
   have hkn : (kp : Int) < nP := by have := NP.out.1; omega
   have hk9 : kp ≤ 9223372036854775807 := by have := NP.out; omega
   have HAT := Lib.hid hat
   have hm9 : m ≤ 100 := by have h1 := HM2.out; have h2 := RM.out.path; have h3 := RM.out.over; have h4 := NF.out; omega
   clear hx hsx hval hf hpp hat hbf hbp
   go_upto_region 8 with fail
   clear c0 c1 c2 c3 c4 c5 c6
   refine wp_region_held_drew (S := fun v => Below lo4 v5 v) (by kernel_rfl) BW.out.drew (fun hHeld => ?_)
   refine tk 0 hHeld ?_;refine tk 1 hHeld ?_;refine tkc 2 hHeld (fun w' hSw => cell6_of (((BL5.out.trans (hSw.mono (Nat.le_of_lt P54.out))).block _ PLT.out.1).trans X0.out)) ?_;refine tk 3 hHeld ?_;refine tkc 4 hHeld (fun w' hSw => cell6_of (((BL5.out.trans (hSw.mono (Nat.le_of_lt P54.out))).block _ PLT.out.1).trans X0.out)) ?_;refine tk 5 hHeld ?_;refine tkc 6 hHeld (fun w' hSw => cell7_of (((BL5.out.trans (hSw.mono (Nat.le_of_lt P54.out))).block _ PLT.out.2).trans X1.out)) ?_;refine tk 7 hHeld ?_;refine tk 8 hHeld ?_;refine tk 9 hHeld ?_;refine tkc 10 hHeld (fun w' hSw => ((BL5.out.trans (hSw.mono (Nat.le_of_lt P54.out))).cell (p := ⟨bf, of_ + i * 2, none⟩) HF0.out.2).trans HF0.out.1) ?_
   have tb := BW.out.drew
   have tO := HO.out.below intR (Below.refl wr.heap.size wr).drew
   generalize wr.drew = V0 at tb tO hHeld ⊢
   clear HO BW BQW
   have BW := Lib.hid tb
   have HO := Lib.hid tO
   clear tb tO
   have HC := rpointat_any (.slice (some ⟨bp, op, none⟩) nP cP) p.pts x V0 ((IP.out.pts.below joinR (BL5.out.trans (BW.out.mono (Nat.le_of_lt P54.out)) |>.mono PL.out)).more joinR (Nat.le_trans PQ.out (BL5.out.trans (BW.out.mono (Nat.le_of_lt P54.out))).size))
   rw [HAT.out] at HC
   refine tkr 11 (fun K hK => ?_)
   go_simp
   refine HC.mono ?_
   rintro e W_ ⟨rfl, rfl⟩
   clear HC
   try go_wp2_with fail
   refine hK.out _ _ ?_ fun hHeld => ?_;exact BW.out;clear hK K;try simp only [zn, Act.put]
   refine tk 12 hHeld ?_;refine tk 13 hHeld ?_;refine tkc 14 hHeld (fun w' hSw => ((BL5.out.trans (hSw.mono (Nat.le_of_lt P54.out))).cell (p := ⟨bp, op + kp * 2 + 1, none⟩) HPP.out.2).trans HPP.out.1) ?_
   refine tkr 15 (fun K hK => ?_)
   go_simp
   refine hK.out _ _ ?_ fun hHeld => ?_;exact BW.out.alloc (Nat.le_trans L45.out BW.out.size) _;clear hK K;try simp only [zn, Act.put]
   refine tkr 16 (fun K hK => ?_)
   rw [if_pos (by rfl)]
   refine wp_append_one (W := W_) (.tmp 30) (.tmp 45) rfl slI14 intR (fun _ h _ _ => h) rfl rfl HO.out HM.out (ys := [.int .i64 sx]) (x := sx) rfl (by simp [Value.oneCell']) rfl (by omega) (Nat.le_trans L45.out BW.out.size) ?_
   intro A6 c6 w6 ho6 hb6
   have O6 := Lib.hid ho6
   have B6 := Lib.hid (BW.out.trans hb6)
   clear ho6 hb6 HO BW
   refine hK.out _ _ ?_ fun hHeld => ?_;exact B6.out;clear hK K;try simp only [zn, Act.put]
   refine tk 17 hHeld ?_
   refine wpAnyH_done (by kernel_rfl) ?_ _
   go_wp2_with fail
   go_roundw
   case measure => simp [intOf]; omega
   case rel => exact ⟨i + 1, m + 1, c6, A6, by go_num, by omega, rfl, by have := HM2.out; omega, by rw [FS.out]; exact O6.out, B6.out⟩
  ·obtain rfl : nF = i := by omega
   have hlt' : ¬ (nF : Int) < nF := by omega
   have LU : Hid (IntsOwn wr lo4 (.slice A m c) (secsU p r)) := Lib.hid (by have h := HO.out; rwa [NF.out.1, flU_all] at h)
   have LM : Hid (m = (secsU p r).length ∧ m ≤ 100) := Lib.hid ⟨by rw [own_len LU.out], by have h1 := HM2.out; have h2 := RM.out.path; have h3 := RM.out.over; have h4 := NF.out; omega⟩
   have AB6 := Lib.hid (AB4.out wr BW.out)
   go_upto_region 10 with fail
   clear AB4 HO BW HM HM2 IR c0 c1 c2 c3 c4 c5 c6
   have hm9 : m ≤ 100 := LM.out.2
   go_loopw [8, 9] (fun s8 s9 wx => ∃ (i : Nat) (g0 g1 : Value), s8 = .int .i64 i ∧ i ≤ m ∧ ArBox wx (p5 + 1) p5 g0 g1 (.slice Ag ng cg) (.slice Ar_ nr cr) ⟨withsL [] ((secsU p r).take i), withsL [] (((secsU p r).map (ptOfD p)).take i), withL (withL [] r.entry) r.exit, withL [] r.id⟩ ∧ IntsOwn wx lo4 (.slice A m c) (secsU p r) ∧ Below p5 q wx) (fun s8 _ _ => m - (intOf s8).toNat)
   case atStart => exact ⟨0, _, _, by go_num, by omega, by simpa [withsL] using AB6.out, LU.out, BQW.out⟩
   case round =>
    clear AB6 LU BQW
    obtain ⟨wx, hwx⟩ : ∃ x, x = wr := ⟨_, rfl⟩
    subst hwx
    obtain ⟨i, g0, g1, rfl, hi, ab, hl, hb⟩ := hrel
    have AB := Lib.hid ab
    have LU := Lib.hid hl
    have BQ2 := Lib.hid hb
    clear ab hl hb
    by_cases hlt : i < m
    ·have hlt' : (i : Int) < m := by omega
     have hir : i < (secsU p r).length := by have := LM.out.1; omega
     obtain ⟨bl, ol, rfl, hbl, hc⟩ := (LU.out.in_ intR_cells).at hir
     obtain ⟨x, hx⟩ : ∃ x, x = (secsU p r)[i] := ⟨_, rfl⟩
     obtain ⟨ks, hks, hat, hid, hpt⟩ := sec_spot HP.out HR.out (List.getElem_mem hir)
     rw [← hx] at hat hid hpt
     obtain ⟨bs, os, rfl, hbs, hss⟩ := IP.out.secs.at hks
     obtain ⟨hs0, hs1, ue, hs2, hj⟩ := hss
     have HUE : Hid (∃ A n c, ue = .slice A n c) := Lib.hid (by obtain ⟨A, c, e, -, -⟩ := hj.slice; exact ⟨A, _, c, e⟩)
     clear hj
     rw [hid] at hs0
     rw [hpt] at hs1
     have HL0 : Hid (wx.cell? ⟨bl, ol + i, none⟩ = some (.int .i64 x) ∧ bl < wx.heap.size) := Lib.hid ⟨by rw [hx]; simpa [IntR] using hc, hbl⟩
     have HSS : Hid (q.cell? ⟨bs, os + ks * 3, none⟩ = some (.int .i64 x) ∧ q.cell? ⟨bs, os + ks * 3 + 1, none⟩ = some (.int .i64 (ptOfD p x)) ∧ q.cell? ⟨bs, os + ks * 3 + 2, none⟩ = some ue ∧ bs < p5) := Lib.hid ⟨by simpa using hs0, by simpa using hs1, by simpa using hs2, Nat.lt_of_lt_of_le hbs PL.out⟩
     have hkn : (ks : Int) < nS := by have := NS.out.1; omega
     have hk9 : ks ≤ 9223372036854775807 := by have := NS.out; omega
     have HX := Lib.hid hx
     have HAT := Lib.hid hat
     clear hx hat hid hpt hc hbl hs0 hs1 hs2 hbs
     go_upto_region 12 with fail
     go_cut [9] from 47 to 75 (fun s9 wz => ∃ p9, s9 = .pointer (some ⟨p9, 0, none⟩) ∧ wz.heap[p9]? = some (.cells #[.int .i64 x, .int .i64 (ptOfD p x), ue] 67 (0, 0)) ∧ wx.heap.size ≤ p9 ∧ Below wx.heap.size wx wz)
     case first =>
      have ONE : Hid ((#[.int .i64 x, .int .i64 (ptOfD p x), ue]).all (·.oneCell') = true) := Lib.hid (by obtain ⟨Au, nu, cu, rfl⟩ := HUE.out; simp [Value.oneCell'])
      refine wp_region_held_drew (S := fun v => Below wx.heap.size wx v) (by kernel_rfl) (Below.refl wx.heap.size wx).drew (fun hHeld => ?_)
      refine tk 0 hHeld ?_;refine tkc 1 hHeld (fun w' hSw => cell6_of (((BQ2.out.trans (hSw.mono (Nat.le_of_lt AB.out.lt))).block _ PLT.out.1).trans X0.out)) ?_;refine tk 2 hHeld ?_;refine tkc 3 hHeld (fun w' hSw => cell6_of (((BQ2.out.trans (hSw.mono (Nat.le_of_lt AB.out.lt))).block _ PLT.out.1).trans X0.out)) ?_;refine tk 4 hHeld ?_;refine tk 5 hHeld ?_;refine tk 6 hHeld ?_;refine tkc 7 hHeld (fun w' hSw => (hSw.cell (p := ⟨bl, ol + i, none⟩) HL0.out.2).trans HL0.out.1) ?_
      have tb := (Below.refl wx.heap.size wx).drew
      generalize wx.drew = q0 at tb hHeld ⊢
      have HB := Lib.hid tb
      clear tb
      refine wpAnyH_ready (rs := [8, 11]) (by kernel_rfl) (by simp) ?_
      refine AllReadyH.cons rfl (fun K hK => ?_) (AllReadyH.cons rfl (fun K hK => ?_) AllReadyH.nil)
      ·go_simp
       have HC := rat_any (.slice (some ⟨bs, os, none⟩) nS cS) p.secs x q0 ((IP.out.secs.below secR_ ((BQ2.out.trans (HB.out.mono (Nat.le_of_lt AB.out.lt))).mono PL.out)).more secR_ (Nat.le_trans PQ.out (BQ2.out.trans (HB.out.mono (Nat.le_of_lt AB.out.lt))).size))
       rw [HAT.out] at HC
       refine HC.mono ?_
       rintro e W_ ⟨rfl, rfl⟩
       clear HC
       try go_wp2_with fail
       refine hK.out _ _ ?_ fun hHeld => ?_;exact HB.out;clear hK K;try simp only [zn, Act.put]
       refine tk 9 hHeld ?_
       refine wpAnyH_take (i := 10) (v := ?_) rfl (by kernel_rfl) (by kernel_rfl) (by kernel_rfl) (fun _ _ _ h => h) (Or.inl ⟨by rfl, ?_⟩) hHeld ?_
       rotate_left
       ·intro w' hSw; have cs0 := ((BQ2.out.trans (hSw.mono (Nat.le_of_lt AB.out.lt))).cell (p := ⟨bs, os + ks * 3, none⟩) HSS.out.2.2.2).trans HSS.out.1; have cs1 := ((BQ2.out.trans (hSw.mono (Nat.le_of_lt AB.out.lt))).cell (p := ⟨bs, os + ks * 3 + 1, none⟩) HSS.out.2.2.2).trans HSS.out.2.1; have cs2 := ((BQ2.out.trans (hSw.mono (Nat.le_of_lt AB.out.lt))).cell (p := ⟨bs, os + ks * 3 + 2, none⟩) HSS.out.2.2.2).trans HSS.out.2.2.1; go_simp; try with_reducible rfl
       simp only [zn, Act.put]
       refine tkr 11 (fun K hK => ?_)
       go_simp
       have tb := HB.out.alloc HB.out.size (.cells #[.int .i64 0, .int .i64 0, .slice none 0 0] 67)
       have t9 := heap_alloc_self W_ (.cells #[.int .i64 0, .int .i64 0, .slice none 0 0] 67)
       refine hK.out _ _ ?_ fun hHeld => ?_;exact tb;clear hK K;try simp only [zn, Act.put]
       generalize W_.alloc (.cells #[.int .i64 0, .int .i64 0, .slice none 0 0] 67) = qB at tb t9 hHeld ⊢
       obtain ⟨p9, hp⟩ : ∃ n, n = W_.heap.size := ⟨_, rfl⟩
       rw [← hp] at t9 ⊢
       have PLB : Hid (wx.heap.size ≤ p9) := Lib.hid (by rw [hp]; exact HB.out.size)
       clear HB hp
       have HB := Lib.hid tb
       have XB := Lib.hid t9
       clear tb t9
       refine tkr 12 (fun K hK => ?_)
       rw [if_pos (by rfl)]
       refine wp_store_rowP 67 (.tmp 9) (.tmp 63) rfl p9 rfl (c' := #[.int .i64 x, .int .i64 (ptOfD p x), ue]) rfl XB.out infoSec14 rfl ONE.out ?_
       have tb := below_setRow HB.out PLB.out #[.int .i64 x, .int .i64 (ptOfD p x), ue]
       have t9 := setRow_heap qB _ _ #[.int .i64 x, .int .i64 (ptOfD p x), ue] _ _ XB.out
       refine hK.out _ _ ?_ fun hHeld => ?_;exact tb;clear hK K;try simp only [zn, Act.put]
       generalize qB.setRow p9 #[.int .i64 x, .int .i64 (ptOfD p x), ue] = qZ at tb t9 hHeld ⊢
       refine wpAnyH_done (by kernel_rfl) ?_ _
       go_wp2_with fail
       go_meet
       exact ⟨p9, rfl, t9, PLB.out, tb⟩
      ·go_simp
       have tb := HB.out.alloc HB.out.size (.cells #[.int .i64 0, .int .i64 0, .slice none 0 0] 67)
       have t9 := heap_alloc_self q0 (.cells #[.int .i64 0, .int .i64 0, .slice none 0 0] 67)
       refine hK.out _ _ ?_ fun hHeld => ?_;exact tb;clear hK K;try simp only [zn, Act.put]
       generalize q0.alloc (.cells #[.int .i64 0, .int .i64 0, .slice none 0 0] 67) = qA at tb t9 hHeld ⊢
       obtain ⟨p9, hp⟩ : ∃ n, n = q0.heap.size := ⟨_, rfl⟩
       rw [← hp] at t9 ⊢
       have PLB : Hid (wx.heap.size ≤ p9) := Lib.hid (by rw [hp]; exact HB.out.size)
       clear HB hp
       have HB := Lib.hid tb
       have XB := Lib.hid t9
       clear tb t9
       refine tkr 8 (fun K hK => ?_)
       go_simp
       have HC := rat_any (.slice (some ⟨bs, os, none⟩) nS cS) p.secs x qA ((IP.out.secs.below secR_ ((BQ2.out.trans (HB.out.mono (Nat.le_of_lt AB.out.lt))).mono PL.out)).more secR_ (Nat.le_trans PQ.out (BQ2.out.trans (HB.out.mono (Nat.le_of_lt AB.out.lt))).size))
       rw [HAT.out] at HC
       refine HC.mono ?_
       rintro e W_ ⟨rfl, rfl⟩
       clear HC
       try go_wp2_with fail
       refine hK.out _ _ ?_ fun hHeld => ?_;exact HB.out;clear hK K;try simp only [zn, Act.put]
       refine tk 9 hHeld ?_
       refine wpAnyH_take (i := 10) (v := ?_) rfl (by kernel_rfl) (by kernel_rfl) (by kernel_rfl) (fun _ _ _ h => h) (Or.inl ⟨by rfl, ?_⟩) hHeld ?_
       rotate_left
       ·intro w' hSw; have cs0 := ((BQ2.out.trans (hSw.mono (Nat.le_of_lt AB.out.lt))).cell (p := ⟨bs, os + ks * 3, none⟩) HSS.out.2.2.2).trans HSS.out.1; have cs1 := ((BQ2.out.trans (hSw.mono (Nat.le_of_lt AB.out.lt))).cell (p := ⟨bs, os + ks * 3 + 1, none⟩) HSS.out.2.2.2).trans HSS.out.2.1; have cs2 := ((BQ2.out.trans (hSw.mono (Nat.le_of_lt AB.out.lt))).cell (p := ⟨bs, os + ks * 3 + 2, none⟩) HSS.out.2.2.2).trans HSS.out.2.2.1; go_simp; try with_reducible rfl
       simp only [zn, Act.put]
       refine tkr 12 (fun K hK => ?_)
       rw [if_pos (by rfl)]
       refine wp_store_rowP 67 (.tmp 9) (.tmp 63) rfl p9 rfl (c' := #[.int .i64 x, .int .i64 (ptOfD p x), ue]) rfl XB.out infoSec14 rfl ONE.out ?_
       have tb := below_setRow HB.out PLB.out #[.int .i64 x, .int .i64 (ptOfD p x), ue]
       have t9 := setRow_heap W_ _ _ #[.int .i64 x, .int .i64 (ptOfD p x), ue] _ _ XB.out
       refine hK.out _ _ ?_ fun hHeld => ?_;exact tb;clear hK K;try simp only [zn, Act.put]
       generalize W_.setRow p9 #[.int .i64 x, .int .i64 (ptOfD p x), ue] = qZ at tb t9 hHeld ⊢
       refine wpAnyH_done (by kernel_rfl) ?_ _
       go_wp2_with fail
       go_meet
       exact ⟨p9, rfl, t9, PLB.out, tb⟩
     case rest =>
      obtain ⟨p9, rfl, h9, hp9, hb⟩ := hcut
      obtain ⟨wz, hwz⟩ : ∃ x, x = wc := ⟨_, rfl⟩
      rw [← hwz] at h9 hb ⊢
      clear hwz wc
      have P59 : Hid (p9 ≠ p5) := Lib.hid (by have := AB.out.lt; omega)
      have AB1 := Lib.hid (AB.out.below hb)
      have LU1 := Lib.hid (LU.out.below intR hb)
      have BQ3 := Lib.hid (BQ2.out.trans (hb.mono (Nat.le_of_lt AB.out.lt)))
      have X9 := Lib.hid h9
      clear AB LU BQ2 h9 hb hp9 HL0 HSS
      obtain ⟨G0, n0, d0, rfl⟩ := own_sl AB1.out.own.secs
      obtain ⟨G1, n1, d1, rfl⟩ := own_sl AB1.out.own.pts
      obtain ⟨f0, f1, f2, f3⟩ := cell4A AB1.out.row
      obtain ⟨e0, e1, e2⟩ := cell3_of X9.out
      have WL : Hid (withsL [] ((secsU p r).take (i + 1)) = withL (withsL [] ((secsU p r).take i)) x) := Lib.hid (by rw [HX.out]; exact withs_snoc hir)
      have WP : Hid (withsL [] (((secsU p r).map (ptOfD p)).take (i + 1)) = withL (withsL [] (((secsU p r).map (ptOfD p)).take i)) (ptOfD p x)) := Lib.hid (by rw [withs_snoc (by simpa using hir), List.getElem_map, HX.out])
      have hln : (secsU p r).length ≤ 400 := by have := LM.out; omega
      have HLN1 : Hid ((withsL [] ((secsU p r).take i)).length ≤ 1000) := Lib.hid (withs_take_len _ _ _ (by simp) hln)
      have HLN2 : Hid ((withsL [] (((secsU p r).map (ptOfD p)).take i)).length ≤ 1000) := Lib.hid (withs_take_len _ _ _ (by simp) (by simpa using hln))
      clear HX hir hln
      go_upto_region 14 with (go_at_call 72; refine (rwith14_own _ _ x (p5 + 1) wz AB1.out.own.secs HLN1.out AB1.out.size).mono ?_; rintro e v7 ⟨g, rfl, h_, b_⟩; obtain ⟨H0, m0, y0, rfl⟩ := own_sl h_; have AB2 := Lib.hid (AB1.out.below b_); have OG := Lib.hid h_; have BQ4 := Lib.hid (BQ3.out.trans (b_.mono (Nat.le_of_lt AB1.out.lt))); have X92 := Lib.hid ((b_.block _ (heap_lt X9.out)).trans X9.out); have LU2 := Lib.hid (LU1.out.below intR b_); have fr := cell4A AB2.out.row; have fz := frozen2_of AB2.out.row 0; clear AB1 BQ3 X9 LU1 h_ b_ f0 f1 f2 f3 e0 e1 e2; obtain ⟨f0, f1, f2, f3⟩ := fr)
      have tA := AB2.out.set0 OG.out
      have tb := BQ4.out.trans (AB2.out.kept 0 (.slice H0 m0 y0))
      have tX := (heap_setFar v7 p5 0 p9 (.slice H0 m0 y0) P59.out).trans X92.out
      have tL := AB2.out.put LU2.out 0 (.slice H0 m0 y0)
      generalize v7.setCell ⟨p5, 0, none⟩ (.slice H0 m0 y0) = v8 at tA tb tX tL ⊢
      clear AB2 BQ4 X92 LU2 OG f0 f1 f2 f3 fz v7
      have AB1 := Lib.hid tA
      have BQ3 := Lib.hid tb
      have X9 := Lib.hid tX
      have LU1 := Lib.hid tL
      clear tA tb tX tL
      obtain ⟨f0, f1, f2, f3⟩ := cell4A AB1.out.row
      obtain ⟨e0, e1, e2⟩ := cell3_of X9.out
      go_wp2_with (go_at_call 72; refine (rwith14_own _ _ (ptOfD p x) (p5 + 1) v8 AB1.out.own.pts HLN2.out AB1.out.size).mono ?_; rintro e v9 ⟨g, rfl, h_, b_⟩; obtain ⟨H1, m1, y1, rfl⟩ := own_sl h_; have AB2 := Lib.hid (AB1.out.below b_); have OG := Lib.hid h_; have BQ4 := Lib.hid (BQ3.out.trans (b_.mono (Nat.le_of_lt AB1.out.lt))); have LU2 := Lib.hid (LU1.out.below intR b_); have fr := cell4A AB2.out.row; have fz := frozen2_of AB2.out.row 1; clear AB1 BQ3 X9 LU1 h_ b_ f0 f1 f2 f3 e0 e1 e2; obtain ⟨f0, f1, f2, f3⟩ := fr)
      go_roundw
      case measure => simp [intOf]; omega
      case rel => exact ⟨i + 1, _, _, by go_num, by omega, by rw [WL.out, WP.out]; exact AB2.out.set1 OG.out, AB2.out.put LU2.out 1 (.slice H1 m1 y1), BQ4.out.trans (AB2.out.kept 1 (.slice H1 m1 y1))⟩
    ·obtain rfl : m = i := by omega
     have hlt' : ¬ (m : Int) < m := by omega
     have E1 : Hid ((secsU p r).take m = secsU p r) := Lib.hid (by rw [LM.out.1]; exact List.take_length)
     have E2 : Hid (((secsU p r).map (ptOfD p)).take m = (secsU p r).map (ptOfD p)) := Lib.hid (List.take_of_length_le (by rw [List.length_map]; exact Nat.le_of_eq LM.out.1.symm))
     obtain ⟨G0, n0, c0, rfl⟩ := own_sl AB.out.own.secs
     obtain ⟨G1, n1, c1, rfl⟩ := own_sl AB.out.own.pts
     obtain ⟨f0, f1, f2, f3⟩ := cell4A AB.out.row
     have hrow := (BQ2.out.block _ P4.out).trans X4.out
     have hg := grownBy_setRow wx (w.heap.size + 1 + 1) #[.slice G0 n0 c0, .slice G1 n1 c1, .slice Ag ng cg, .slice Ar_ nr cr]
     have OL : Hid (ArOwn (wx.setRow (w.heap.size + 1 + 1) #[.slice G0 n0 c0, .slice G1 n1 c1, .slice Ag ng cg, .slice Ar_ nr cr]) w.heap.size (.slice G0 n0 c0) (.slice G1 n1 c1) (.slice Ag ng cg) (.slice Ar_ nr cr) (usedA p r)) := Lib.hid (by
      have h := (AB.out.own.mono (Nat.le_succ_of_le PL.out)).off hg ⟨_, hrow⟩
      rw [E1.out, E2.out] at h
      exact h)
     have BE : Hid (Below w.heap.size w (wx.setRow (w.heap.size + 1 + 1) #[.slice G0 n0 c0, .slice G1 n1 c1, .slice Ag ng cg, .slice Ar_ nr cr])) := Lib.hid ((BQ.out.trans (BQ2.out.mono PL.out)).trans (gb_low14 hg (by omega) (Nat.le_trans PQ.out BQ2.out.size)))
     have XE := setRow_heap wx _ _ #[.slice G0 n0 c0, .slice G1 n1 c1, .slice Ag ng cg, .slice Ar_ nr cr] _ _ hrow
     go_wp2_with ((with_reducible show wpList _ _ _ (⟨none, _, _, _, _, _⟩ :: _) _ _); refine wpList_store_rowS rfl _ (.tmp 4) (.tmp 76) rfl (w.heap.size + 1 + 1) rfl (c' := #[.slice G0 n0 c0, .slice G1 n1 c1, .slice Ag ng cg, .slice Ar_ nr cr]) rfl hrow infoArea4 rfl (by simp [Value.oneCell']) ?_)
     refine bodyPost_ret (results_cell_row rfl _ _ (w.heap.size + 1 + 1) 24 #[.slice G0 n0 c0, .slice G1 n1 c1, .slice Ag ng cg, .slice Ar_ nr cr] (0, 0) _ rfl XE Tryz.underlying24 rfl infoArea4) rfl ⟨_, _, _, _, rfl, OL.out, BE.out⟩
end Go.Proofs.YtneeocnjfnneoaaGreat
