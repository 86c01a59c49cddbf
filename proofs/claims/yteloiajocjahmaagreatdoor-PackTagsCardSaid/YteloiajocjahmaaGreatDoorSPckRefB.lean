/-
 The document's own package pack: Numbers.
 Conditions: none.
-/
import Derived.Test.YteloiajocjahmaaGreatDoorSGPckM
set_option linter.unusedVariables false
set_option linter.unusedSimpArgs false
set_option maxRecDepth 100000
namespace Go.Proofs.YteloiajocjahmaaGreatDoor
open Go.RowKit

theorem infoSec3k : (Tryz.prog.info? 63).map (·.size) = some 3 := by kernel_rfl
theorem flat_snoc {α : Type} (f : α → List Int) {x : List α} {i : Nat} (hi : i < x.length) : (x.take (i + 1)).flatMap f = (x.take i).flatMap f ++ f x[i] := by
 rw [take_snoc hi, List.flatMap_append, List.flatMap_singleton]
set_option maxHeartbeats 16000000 in
theorem rnumbers_any (v : Value) (p : Pl) (w : World) (h : PlanV w w.heap.size v p) (hm : PlanMay p) :
  Calls Tryz.prog 71 #[v] w fun e w' => ∃ A c n, e = .returned (.slice A n c) ∧ n = (numsP p).length ∧ IntsOwn w' w.heap.size (.slice A n c) (numsP p) ∧ Below w.heap.size w w' := by
 have HM := Lib.hid hm
 clear hm
 obtain ⟨A2, c2, A3, c3, A4, c4, A5, c5, n2, n3, n4, n5, rfl, hm2, hm3, hm4, hm5, HCP, HIN, HN⟩ := open_plan h
 have hq0 := heap_alloc_self w (.cells #[.int .i64 p.ver, .int .i64 p.par, .slice A2 n2 c2, .slice A3 n3 c3, .slice A4 n4 c4, .slice A5 n5 c5] 28)
 have hqb := below_new w (.cells #[.int .i64 p.ver, .int .i64 p.par, .slice A2 n2 c2, .slice A3 n3 c3, .slice A4 n4 c4, .slice A5 n5 c5] 28)
 go_enter Tryz.func71, Tryz.ntmps71
 go_upto_region 1 with fail
 generalize w.alloc (.cells #[.int .i64 p.ver, .int .i64 p.par, .slice A2 n2 c2, .slice A3 n3 c3, .slice A4 n4 c4, .slice A5 n5 c5] 28) = q at hq0 hqb ⊢
 have XP := Lib.hid hq0
 have BQ := Lib.hid hqb
 clear hq0 hqb
 have PLT : Hid (w.heap.size < q.heap.size) := Lib.hid (heap_lt XP.out)
 have PLE := Lib.hid (Nat.le_of_lt PLT.out)
 have HI := Lib.hid ((HIN.out.below BQ.out).more BQ.out.size)
 have NUM : Hid (n2 ≤ 16 ∧ n3 ≤ 6 ∧ n4 ≤ 10 ∧ n5 ≤ 16) := Lib.hid (by
  have h1 := HM.out.secs.n
  have h2 := HM.out.pts.n
  have h3 := HM.out.sigs.n
  have h4 := HM.out.n
  have h5 := HN.out
  omega)
 clear HIN
 obtain ⟨k0, k1, k2, k3, k4, k5⟩ := cell6_of XP.out
 have hO0 : IntsOwn (q.alloc (.cells #[.int .i64 p.ver, .int .i64 p.par, .int .i64 (n2 : Int)] 3)) q.heap.size (.slice (some ⟨q.heap.size, 0, none⟩) 3 3) [p.ver, p.par, (n2 : Int)] := ints_own_alloc q [p.ver, p.par, (n2 : Int)] (by simp)
 have hB0 : Below q.heap.size q (q.alloc (.cells #[.int .i64 p.ver, .int .i64 p.par, .int .i64 (n2 : Int)] 3)) := below_new q _
 have H0 := Lib.hid hO0
 have HB0 := Lib.hid hB0
 clear hO0 hB0
 go_wp2_with fail
 clear k0 k1 k2 k3 k4 k5
 go_loopw [3, 4] (fun s3 s4 wr => ∃ (i m : Nat) (A : Option Addr) (c : Nat), s4 = .int .i64 i ∧ s3 = .slice A m c ∧ i ≤ n2 ∧ m = ([p.ver, p.par, (n2 : Int)] ++ (p.secs.take i).flatMap numsS).length ∧ m ≤ 3 + 8 * i ∧ IntsOwn wr q.heap.size (.slice A m c) ([p.ver, p.par, (n2 : Int)] ++ (p.secs.take i).flatMap numsS) ∧ Below q.heap.size q wr) (fun _ s4 _ => n2 - (intOf s4).toNat)
 case atStart => exact ⟨0, 3, _, _, by go_num, rfl, by omega, by rw [show [p.ver, p.par, (n2 : Int)] ++ (p.secs.take 0).flatMap numsS = [p.ver, p.par, (n2 : Int)] by simp]; exact (by rfl), by omega, by rw [show [p.ver, p.par, (n2 : Int)] ++ (p.secs.take 0).flatMap numsS = [p.ver, p.par, (n2 : Int)] by simp]; exact H0.out, HB0.out⟩
 case round =>
  obtain ⟨w1, hwy⟩ : ∃ u, u = wr := ⟨_, rfl⟩
  subst hwy
  obtain ⟨i, mi, Ai, ci, rfl, rfl, hi, hmli, hmbi, hoi, hbi⟩ := hrel
  have KLi := Lib.hid hmli
  have Oi := Lib.hid hoi
  have Bi := Lib.hid hbi
  have BSi : Hid (q.heap.size ≤ w1.heap.size) := Lib.hid hbi.size
  clear hmli hoi hbi
  have XPr := Lib.hid ((Bi.out.block _ PLT.out).trans XP.out)
  obtain ⟨k0, k1, k2, k3, k4, k5⟩ := cell6_of XPr.out
  by_cases hlti : i < n2
  ·have hlt' : (i : Int) < n2 := by omega
   have hir : i < p.secs.length := by rw [← HN.out.1]; exact hlti
   have hi16 : i ≤ 16 := by have := NUM.out; omega
   obtain ⟨bk, off, e5, hbk, h0, h1, U, h2, hU⟩ := HI.out.secs.at hir
   cases e5
   have hse := (sec_ends HM.out (List.getElem_mem hir)).1
   obtain ⟨id, pt, es, hs⟩ : ∃ a b c, p.secs[i] = (a, b, c) := ⟨_, _, _, rfl⟩
   rw [hs] at h0 h1 hU hse
   have HS := Lib.hid hs
   obtain ⟨AU, cU, rfl, -, -⟩ := hU.slice
   obtain ⟨ne, hne⟩ : ∃ n, n = es.length := ⟨_, rfl⟩
   have HNE : Hid (ne = es.length ∧ ne ≤ 3) := Lib.hid (by refine ⟨hne, ?_⟩; rw [hne]; show es.length ≤ 3; have : es.length = endsOf pt := hse; rw [this, endsOf]; split <;> omega)
   have hne3 : ne ≤ 3 := HNE.out.2
   have HU : Hid (JoinsIn q q.heap.size (.slice AU ne cU) es) := Lib.hid (by rw [hne]; exact hU)
   have g0 : w1.cell? ⟨bk, off + i * 3, none⟩ = some (.int .i64 id) := (Bi.out.cell (p := ⟨bk, off + i * 3, none⟩) hbk).trans h0
   have g1 : w1.cell? ⟨bk, off + i * 3 + 1, none⟩ = some (.int .i64 pt) := (Bi.out.cell (p := ⟨bk, off + i * 3 + 1, none⟩) hbk).trans h1
   have g2 : w1.cell? ⟨bk, off + i * 3 + 2, none⟩ = some (.slice AU ne cU) := (Bi.out.cell (p := ⟨bk, off + i * 3 + 2, none⟩) hbk).trans (by rw [hne]; exact h2)
   clear h0 h1 h2 hU hs hne hbk hse
   have XX0 := heap_alloc_self w1 (.cells #[.int .i64 0, .int .i64 0, .slice none 0 0] 63)
   have hb5 := below_setRow (below_new w1 (.cells #[.int .i64 0, .int .i64 0, .slice none 0 0] 63)) (Nat.le_refl _) #[.int .i64 id, .int .i64 pt, .slice AU ne cU]
   have hx5 := setRow_heap (w1.alloc (.cells #[.int .i64 0, .int .i64 0, .slice none 0 0] 63)) w1.heap.size _ #[.int .i64 id, .int .i64 pt, .slice AU ne cU] 63 _ XX0
   go_upto_region 6 with ((with_reducible show wpList _ _ _ (⟨none, _, _, _, _, _⟩ :: _) _ _); refine wpList_store_rowS rfl _ (.tmp 5) (.tmp 31) rfl w1.heap.size rfl (c' := #[.int .i64 id, .int .i64 pt, .slice AU ne cU]) rfl XX0 infoSec3k rfl (by simp [Value.oneCell']) ?_)
   generalize (w1.alloc (.cells #[.int .i64 0, .int .i64 0, .slice none 0 0] 63)).setRow w1.heap.size #[.int .i64 id, .int .i64 pt, .slice AU ne cU] = u5 at hb5 hx5 ⊢
   obtain ⟨p5, hp5⟩ : ∃ n, n = w1.heap.size := ⟨_, rfl⟩
   rw [← hp5] at hx5 ⊢
   have X5 := Lib.hid hx5
   have O5 := Lib.hid (Oi.out.below intR hb5)
   have B5 := Lib.hid (Bi.out.trans (hb5.mono Bi.out.size))
   clear XX0 hb5 hx5 hp5
   clear g0 g1 g2 k0 k1 k2 k3 k4 k5 XPr
   have KL5 := KLi
   clear KLi Oi Bi BSi
   obtain ⟨m0, m1, m2⟩ := cell3_of X5.out
   have BS : Hid (q.heap.size ≤ u5.heap.size) := Lib.hid B5.out.size
   go_upto_region 7 with ((with_reducible show wpList _ _ _ (⟨some 38, _, _, _, _, _⟩ :: _) _ _); refine wpList_append_ints rfl (.tmp 32) (.tmp 37) rfl (lo := q.heap.size) rfl (O5.out.below intR (below_new _ _)) KL5.out rfl (ints_alloc _ [id, pt] (by simp)) (mi + 2) (rfl) (by omega) (by have := BS.out; simp; omega) ?_; intro A6 c6 w6 ho6 hb6 hk6; have O6 := Lib.hid ho6; have G6 := Lib.hid hb6; have K6 := Lib.hid hk6; clear ho6 hb6 hk6)
   have B6 := Lib.hid ((B5.out.alloc BS.out _).trans G6.out)
   have X6 := Lib.hid (K6.out _ _ _ _ (by decide) ((heap_alloc_lt u5 _ (heap_lt X5.out)).trans X5.out))
   have KL6 : Hid (mi + 2 = (([p.ver, p.par, (n2 : Int)] ++ (p.secs.take i).flatMap numsS) ++ [id, pt]).length) := Lib.hid (by rw [List.length_append, ← KL5.out]; rfl)
   clear G6 K6 BS O5 KL5 B5 X5
   clear m0 m1 m2
   obtain ⟨L2, hL2⟩ : ∃ x, x = ([p.ver, p.par, (n2 : Int)] ++ (p.secs.take i).flatMap numsS) ++ [id, pt] := ⟨_, rfl⟩
   rw [← hL2] at O6 KL6
   have HL2 := Lib.hid hL2
   clear hL2
   go_wp2_with fail
   go_loopw [3, 6] (fun s3 s4 wr => ∃ (k_ m : Nat) (A : Option Addr) (c : Nat), s4 = .int .i64 k_ ∧ s3 = .slice A m c ∧ k_ ≤ ne ∧ m = (L2 ++ (es.take k_).flatMap numsJ).length ∧ m ≤ mi + 2 + 2 * k_ ∧ IntsOwn wr q.heap.size (.slice A m c) (L2 ++ (es.take k_).flatMap numsJ) ∧ Below q.heap.size q wr ∧ wr.heap[p5]? = some (.cells #[.int .i64 id, .int .i64 pt, .slice AU ne cU] 63 (0, 0))) (fun _ s4 _ => ne - (intOf s4).toNat)
   case atStart => exact ⟨0, mi + 2, A6, c6, by go_num, rfl, by omega, by rw [show L2 ++ (es.take 0).flatMap numsJ = L2 by simp]; exact KL6.out, by omega, by rw [show L2 ++ (es.take 0).flatMap numsJ = L2 by simp]; exact O6.out, B6.out, X6.out⟩
   case round =>
    obtain ⟨w2, hwy⟩ : ∃ u, u = wr := ⟨_, rfl⟩
    subst hwy
    obtain ⟨k_, mk_, Ak_, ck_, rfl, rfl, hk_, hmlk_, hmbk_, hok_, hbk_, hx7⟩ := hrel
    have KLk_ := Lib.hid hmlk_
    have Ok_ := Lib.hid hok_
    have Bk_ := Lib.hid hbk_
    have BSk_ : Hid (q.heap.size ≤ w2.heap.size) := Lib.hid hbk_.size
    have X7 := Lib.hid hx7
    clear hmlk_ hok_ hbk_ hx7
    obtain ⟨k0, k1, k2⟩ := cell3_of X7.out
    by_cases hltk_ : k_ < ne
    ·have hlt' : (k_ : Int) < ne := by omega
     have hirk_ : k_ < es.length := by rw [← HNE.out.1]; exact hltk_
     have hi16 : k_ ≤ 16 := by have := NUM.out; omega
     obtain ⟨bk, off, e5, hbk, hc0, hc1⟩ := HU.out.at hirk_
     cases e5
     obtain ⟨e0, e1, hs⟩ : ∃ a b, es[k_] = (a, b) := ⟨_, _, rfl⟩
     rw [hs] at hc0 hc1
     have NX : Hid ((L2 ++ (es.take k_).flatMap numsJ) ++ [e0, e1] = L2 ++ (es.take (k_ + 1)).flatMap numsJ) := Lib.hid (by rw [flat_snoc numsJ hirk_, hs, List.append_assoc]; rfl)
     have HBK := Lib.hid hbk
     have GE0 : Hid (w2.cell? ⟨bk, off + k_ * 2, none⟩ = some (.int .i64 e0)) := Lib.hid ((Bk_.out.cell (p := ⟨bk, off + k_ * 2, none⟩) hbk).trans hc0)
     have GE1 : Hid (w2.cell? ⟨bk, off + k_ * 2 + 1, none⟩ = some (.int .i64 e1)) := Lib.hid ((Bk_.out.cell (p := ⟨bk, off + k_ * 2 + 1, none⟩) hbk).trans hc1)
     clear hs hbk hc0 hc1
     have BSY := BSk_
     go_upto_region 10 with fail
     clear k0 k1 k2
     refine wp_region_held_drew (S := fun v => Below q.heap.size w2 v ∧ v.heap[p5]? = w2.heap[p5]?) (by kernel_rfl) ⟨(Below.refl q.heap.size w2).drew, rfl⟩ (fun hHeld => ?_)
     refine tk 0 hHeld ?_;refine tk 1 hHeld ?_;refine tkc 2 hHeld (fun w' hSw => cell3_of (hSw.2.trans X7.out)) ?_;refine tk 3 hHeld ?_;refine tk 4 hHeld ?_;refine tk 5 hHeld ?_;refine tkc 6 hHeld (fun w' hSw => (hSw.1.cell (p := ⟨bk, off + k_ * 2, none⟩) HBK.out).trans GE0.out) ?_;refine tk 7 hHeld ?_;refine tkc 8 hHeld (fun w' hSw => cell3_of (hSw.2.trans X7.out)) ?_;refine tk 9 hHeld ?_;refine tk 10 hHeld ?_;refine tk 11 hHeld ?_;refine tkc 12 hHeld (fun w' hSw => (hSw.1.cell (p := ⟨bk, off + k_ * 2 + 1, none⟩) HBK.out).trans GE1.out) ?_
     refine tkr 13 (fun K hK => ?_)
     go_simp
     refine hK.out _ _ ?_ fun hHeld => ?_;exact ⟨((Below.refl q.heap.size w2).drew.alloc (by exact BSY.out) _), (heap_alloc_lt w2.drew _ (heap_lt X7.out))⟩;clear hK K;try simp only [zn, Act.put]
     refine tkr 14 (fun K hK => ?_)
     rw [if_pos (by rfl)]
     refine wp_append_ints (.tmp 46) (.tmp 59) rfl (lo := q.heap.size) rfl (Ok_.out.below intR ((Below.refl w2.heap.size w2).drew.alloc (Nat.le_refl _) _)) KLk_.out rfl (ints_alloc _ [e0, e1] (by simp)) (mk_ + 2) rfl (by omega) (by have := BSY.out; simp; omega) ?_
     intro AE cE wE hoE hbE hkE
     have OE := Lib.hid hoE
     have GE : Hid (Below q.heap.size w2 wE) := Lib.hid (((Below.refl q.heap.size w2).drew.alloc (by exact BSY.out) _).trans hbE)
     have tX : wE.heap[p5]? = w2.heap[p5]? := (hkE _ _ _ _ (by decide) ((heap_alloc_lt w2.drew _ (heap_lt X7.out)).trans X7.out)).trans X7.out.symm
     clear hoE hbE hkE
     refine hK.out _ _ ?_ fun hHeld => ?_;exact ⟨GE.out, tX⟩;clear hK K;try simp only [zn, Act.put]
     refine tk 15 hHeld ?_
     refine wpAnyH_done (by kernel_rfl) ?_ _
     have KLE : Hid (mk_ + 2 = ((L2 ++ (es.take k_).flatMap numsJ) ++ [e0, e1]).length) := Lib.hid (by rw [List.length_append, ← KLk_.out]; rfl)
     have BE := Lib.hid (Bk_.out.trans GE.out)
     have XE := Lib.hid (tX.trans X7.out)
     clear tX
     go_wp2_with fail
     go_roundw
     case measure => simp [intOf]; omega
     case rel => exact ⟨k_ + 1, mk_ + 2, AE, cE, by go_num, rfl, by omega, by rw [← NX.out]; exact KLE.out, by omega, by rw [← NX.out]; exact OE.out, BE.out, XE.out⟩
    ·obtain rfl : ne = k_ := by omega
     have hlt' : ¬ (ne : Int) < ne := by omega
     have NX1 : Hid (L2 ++ (es.take ne).flatMap numsJ = [p.ver, p.par, (n2 : Int)] ++ (p.secs.take (i + 1)).flatMap numsS) := Lib.hid (by rw [HNE.out.1, List.take_length, HL2.out, flat_snoc numsS hir, HS.out, numsS]; simp)
     go_wp2_with fail
     go_roundw
     case measure => simp [intOf]; omega
     case rel => exact ⟨i + 1, mk_, Ak_, ck_, by go_num, rfl, by omega, by rw [← NX1.out]; exact KLk_.out, by omega, by rw [← NX1.out]; exact Ok_.out, Bk_.out⟩
  ·obtain rfl : n2 = i := by omega
   have hlt' : ¬ (n2 : Int) < n2 := by omega
   obtain ⟨m0, m1, m2, m3, m4, m5⟩ := cell6_of XPr.out
   clear k0 k1 k2 k3 k4 k5
   have hn16 : n2 ≤ 16 := by have := NUM.out; omega
   have BS : Hid (q.heap.size ≤ w1.heap.size) := Lib.hid Bi.out.size
   go_wp2_with ((with_reducible show wpList _ _ _ (⟨some 66, _, _, _, _, _⟩ :: _) _ _); refine wpList_append_ints rfl (.tmp 61) (.tmp 65) rfl (lo := q.heap.size) rfl (Oi.out.below intR (below_new _ _)) KLi.out rfl (ints_alloc _ [(n3 : Int)] (by simp)) (mi + 1) (rfl) (by omega) (by have := BS.out; simp; omega) ?_; intro A11 c11 w11 ho11 hb11 hk11; have O11 := Lib.hid ho11; have G11 := Lib.hid hb11; have K11 := Lib.hid hk11; clear ho11 hb11 hk11)
   have B11 := Lib.hid ((Bi.out.alloc BS.out _).trans G11.out)
   have KL11 : Hid (mi + 1 = (([p.ver, p.par, (n2 : Int)] ++ (p.secs.take n2).flatMap numsS) ++ [(n3 : Int)]).length) := Lib.hid (by rw [List.length_append, ← KLi.out]; rfl)
   clear G11 K11 BS Oi KLi Bi
   clear m0 m1 m2 m3 m4 m5
   obtain ⟨L3, hL3⟩ : ∃ x, x = ([p.ver, p.par, (n2 : Int)] ++ (p.secs.take n2).flatMap numsS) ++ [(n3 : Int)] := ⟨_, rfl⟩
   rw [← hL3] at O11 KL11
   have HL3 : Hid (L3 = ([p.ver, p.par, (n2 : Int)] ++ p.secs.flatMap numsS) ++ [(n3 : Int)]) := Lib.hid (by rw [hL3, show p.secs.take n2 = p.secs by rw [HN.out.1, List.take_length]])
   clear hL3
   go_loopw [3, 7] (fun s3 s4 wr => ∃ (j_ m : Nat) (A : Option Addr) (c : Nat), s4 = .int .i64 j_ ∧ s3 = .slice A m c ∧ j_ ≤ n3 ∧ m = (L3 ++ (p.pts.take j_).flatMap numsJ).length ∧ m ≤ 140 + 2 * j_ ∧ IntsOwn wr q.heap.size (.slice A m c) (L3 ++ (p.pts.take j_).flatMap numsJ) ∧ Below q.heap.size q wr) (fun _ s4 _ => n3 - (intOf s4).toNat)
   case atStart => exact ⟨0, mi + 1, A11, c11, by go_num, rfl, by omega, by rw [show L3 ++ (p.pts.take 0).flatMap numsJ = L3 by simp]; exact KL11.out, by omega, by rw [show L3 ++ (p.pts.take 0).flatMap numsJ = L3 by simp]; exact O11.out, B11.out⟩
   case round =>
    obtain ⟨w3, hwy⟩ : ∃ u, u = wr := ⟨_, rfl⟩
    subst hwy
    obtain ⟨j_, mj_, Aj_, cj_, rfl, rfl, hj_, hmlj_, hmbj_, hoj_, hbj_⟩ := hrel
    have KLj_ := Lib.hid hmlj_
    have Oj_ := Lib.hid hoj_
    have Bj_ := Lib.hid hbj_
    have BSj_ : Hid (q.heap.size ≤ w3.heap.size) := Lib.hid hbj_.size
    clear hmlj_ hoj_ hbj_
    have XPr := Lib.hid ((Bj_.out.block _ PLT.out).trans XP.out)
    obtain ⟨k0, k1, k2, k3, k4, k5⟩ := cell6_of XPr.out
    by_cases hltj_ : j_ < n3
    ·have hlt' : (j_ : Int) < n3 := by omega
     have hirj_ : j_ < p.pts.length := by rw [← HN.out.2.1]; exact hltj_
     have hi16 : j_ ≤ 16 := by have := NUM.out; omega
     obtain ⟨bk, off, e5, hbk, hc0, hc1⟩ := HI.out.pts.at hirj_
     cases e5
     obtain ⟨e0, e1, hs⟩ : ∃ a b, p.pts[j_] = (a, b) := ⟨_, _, rfl⟩
     rw [hs] at hc0 hc1
     have NX : Hid ((L3 ++ (p.pts.take j_).flatMap numsJ) ++ [e0, e1] = L3 ++ (p.pts.take (j_ + 1)).flatMap numsJ) := Lib.hid (by rw [flat_snoc numsJ hirj_, hs, List.append_assoc]; rfl)
     have HBK := Lib.hid hbk
     have GE0 : Hid (w3.cell? ⟨bk, off + j_ * 2, none⟩ = some (.int .i64 e0)) := Lib.hid ((Bj_.out.cell (p := ⟨bk, off + j_ * 2, none⟩) hbk).trans hc0)
     have GE1 : Hid (w3.cell? ⟨bk, off + j_ * 2 + 1, none⟩ = some (.int .i64 e1)) := Lib.hid ((Bj_.out.cell (p := ⟨bk, off + j_ * 2 + 1, none⟩) hbk).trans hc1)
     clear hs hbk hc0 hc1
     have BSY := BSj_
     go_upto_region 15 with fail
     clear k0 k1 k2 k3 k4 k5
     refine wp_region_held_drew (S := fun v => Below q.heap.size w3 v ∧ True) (by kernel_rfl) ⟨(Below.refl q.heap.size w3).drew, trivial⟩ (fun hHeld => ?_)
     refine tk 0 hHeld ?_;refine tk 1 hHeld ?_;refine tkc 2 hHeld (fun w' hSw => cell6_of ((hSw.1.block _ PLT.out).trans XPr.out)) ?_;refine tk 3 hHeld ?_;refine tk 4 hHeld ?_;refine tk 5 hHeld ?_;refine tkc 6 hHeld (fun w' hSw => (hSw.1.cell (p := ⟨bk, off + j_ * 2, none⟩) HBK.out).trans GE0.out) ?_;refine tk 7 hHeld ?_;refine tkc 8 hHeld (fun w' hSw => cell6_of ((hSw.1.block _ PLT.out).trans XPr.out)) ?_;refine tk 9 hHeld ?_;refine tk 10 hHeld ?_;refine tk 11 hHeld ?_;refine tkc 12 hHeld (fun w' hSw => (hSw.1.cell (p := ⟨bk, off + j_ * 2 + 1, none⟩) HBK.out).trans GE1.out) ?_
     refine tkr 13 (fun K hK => ?_)
     go_simp
     refine hK.out _ _ ?_ fun hHeld => ?_;exact ⟨((Below.refl q.heap.size w3).drew.alloc (by exact BSY.out) _), trivial⟩;clear hK K;try simp only [zn, Act.put]
     refine tkr 14 (fun K hK => ?_)
     rw [if_pos (by rfl)]
     refine wp_append_ints (.tmp 74) (.tmp 87) rfl (lo := q.heap.size) rfl (Oj_.out.below intR ((Below.refl w3.heap.size w3).drew.alloc (Nat.le_refl _) _)) KLj_.out rfl (ints_alloc _ [e0, e1] (by simp)) (mj_ + 2) rfl (by omega) (by have := BSY.out; simp; omega) ?_
     intro AE cE wE hoE hbE hkE
     have OE := Lib.hid hoE
     have GE : Hid (Below q.heap.size w3 wE) := Lib.hid (((Below.refl q.heap.size w3).drew.alloc (by exact BSY.out) _).trans hbE)
     clear hoE hbE hkE
     refine hK.out _ _ ?_ fun hHeld => ?_;exact ⟨GE.out, trivial⟩;clear hK K;try simp only [zn, Act.put]
     refine tk 15 hHeld ?_
     refine wpAnyH_done (by kernel_rfl) ?_ _
     have KLE : Hid (mj_ + 2 = ((L3 ++ (p.pts.take j_).flatMap numsJ) ++ [e0, e1]).length) := Lib.hid (by rw [List.length_append, ← KLj_.out]; rfl)
     have BE := Lib.hid (Bj_.out.trans GE.out)
     go_wp2_with fail
     go_roundw
     case measure => simp [intOf]; omega
     case rel => exact ⟨j_ + 1, mj_ + 2, AE, cE, by go_num, rfl, by omega, by rw [← NX.out]; exact KLE.out, by omega, by rw [← NX.out]; exact OE.out, BE.out⟩
    ·obtain rfl : n3 = j_ := by omega
     have hlt' : ¬ (n3 : Int) < n3 := by omega
     obtain ⟨m0, m1, m2, m3, m4, m5⟩ := cell6_of XPr.out
     clear k0 k1 k2 k3 k4 k5
     have hn16 : n3 ≤ 16 := by have := NUM.out; omega
     have BS : Hid (q.heap.size ≤ w3.heap.size) := Lib.hid Bj_.out.size
     go_wp2_with ((with_reducible show wpList _ _ _ (⟨some 94, _, _, _, _, _⟩ :: _) _ _); refine wpList_append_ints rfl (.tmp 89) (.tmp 93) rfl (lo := q.heap.size) rfl (Oj_.out.below intR (below_new _ _)) KLj_.out rfl (ints_alloc _ [(n4 : Int)] (by simp)) (mj_ + 1) (rfl) (by omega) (by have := BS.out; simp; omega) ?_; intro A16 c16 w16 ho16 hb16 hk16; have O16 := Lib.hid ho16; have G16 := Lib.hid hb16; have K16 := Lib.hid hk16; clear ho16 hb16 hk16)
     have B16 := Lib.hid ((Bj_.out.alloc BS.out _).trans G16.out)
     have KL16 : Hid (mj_ + 1 = ((L3 ++ (p.pts.take n3).flatMap numsJ) ++ [(n4 : Int)]).length) := Lib.hid (by rw [List.length_append, ← KLj_.out]; rfl)
     clear G16 K16 BS Oj_ KLj_ Bj_
     clear m0 m1 m2 m3 m4 m5
     obtain ⟨L4, hL4⟩ : ∃ x, x = (L3 ++ (p.pts.take n3).flatMap numsJ) ++ [(n4 : Int)] := ⟨_, rfl⟩
     rw [← hL4] at O16 KL16
     have HL4 : Hid (L4 = (([p.ver, p.par, (n2 : Int)] ++ p.secs.flatMap numsS) ++ [(n3 : Int)] ++ p.pts.flatMap numsJ) ++ [(n4 : Int)]) := Lib.hid (by rw [hL4, HL3.out, show p.pts.take n3 = p.pts by rw [HN.out.2.1, List.take_length]])
     clear hL4
     go_loopw [3, 8] (fun s3 s4 wr => ∃ (g_ m : Nat) (A : Option Addr) (c : Nat), s4 = .int .i64 g_ ∧ s3 = .slice A m c ∧ g_ ≤ n4 ∧ m = (L4 ++ (p.sigs.take g_).flatMap numsG).length ∧ m ≤ 200 + 3 * g_ ∧ IntsOwn wr q.heap.size (.slice A m c) (L4 ++ (p.sigs.take g_).flatMap numsG) ∧ Below q.heap.size q wr) (fun _ s4 _ => n4 - (intOf s4).toNat)
     case atStart => exact ⟨0, mj_ + 1, A16, c16, by go_num, rfl, by omega, by rw [show L4 ++ (p.sigs.take 0).flatMap numsG = L4 by simp]; exact KL16.out, by omega, by rw [show L4 ++ (p.sigs.take 0).flatMap numsG = L4 by simp]; exact O16.out, B16.out⟩
     case round =>
      obtain ⟨w4, hwy⟩ : ∃ u, u = wr := ⟨_, rfl⟩
      subst hwy
      obtain ⟨g_, mg_, Ag_, cg_, rfl, rfl, hg_, hmlg_, hmbg_, hog_, hbg_⟩ := hrel
      have KLg_ := Lib.hid hmlg_
      have Og_ := Lib.hid hog_
      have Bg_ := Lib.hid hbg_
      have BSg_ : Hid (q.heap.size ≤ w4.heap.size) := Lib.hid hbg_.size
      clear hmlg_ hog_ hbg_
      have XPr := Lib.hid ((Bg_.out.block _ PLT.out).trans XP.out)
      obtain ⟨k0, k1, k2, k3, k4, k5⟩ := cell6_of XPr.out
      by_cases hltg_ : g_ < n4
      ·have hlt' : (g_ : Int) < n4 := by omega
       have hirg_ : g_ < p.sigs.length := by rw [← HN.out.2.2.1]; exact hltg_
       have hi16 : g_ ≤ 16 := by have := NUM.out; omega
       obtain ⟨bk, off, e5, hbk, hc0, hc1, hc2⟩ := HI.out.sigs.at hirg_
       cases e5
       obtain ⟨e0, e1, e2, hs⟩ : ∃ a b c, p.sigs[g_] = (a, b, c) := ⟨_, _, _, rfl⟩
       rw [hs] at hc0 hc1 hc2
       have NX : Hid ((L4 ++ (p.sigs.take g_).flatMap numsG) ++ [e0, e1, e2] = L4 ++ (p.sigs.take (g_ + 1)).flatMap numsG) := Lib.hid (by rw [flat_snoc numsG hirg_, hs, List.append_assoc]; rfl)
       have HBK := Lib.hid hbk
       have GE0 : Hid (w4.cell? ⟨bk, off + g_ * 3, none⟩ = some (.int .i64 e0)) := Lib.hid ((Bg_.out.cell (p := ⟨bk, off + g_ * 3, none⟩) hbk).trans hc0)
       have GE1 : Hid (w4.cell? ⟨bk, off + g_ * 3 + 1, none⟩ = some (.int .i64 e1)) := Lib.hid ((Bg_.out.cell (p := ⟨bk, off + g_ * 3 + 1, none⟩) hbk).trans hc1)
       have GE2 : Hid (w4.cell? ⟨bk, off + g_ * 3 + 2, none⟩ = some (.int .i64 e2)) := Lib.hid ((Bg_.out.cell (p := ⟨bk, off + g_ * 3 + 2, none⟩) hbk).trans hc2)
       clear hs hbk hc0 hc1 hc2
       have BSY := BSg_
       go_upto_region 20 with fail
       clear k0 k1 k2 k3 k4 k5
       refine wp_region_held_drew (S := fun v => Below q.heap.size w4 v ∧ True) (by kernel_rfl) ⟨(Below.refl q.heap.size w4).drew, trivial⟩ (fun hHeld => ?_)
       refine tk 0 hHeld ?_;refine tk 1 hHeld ?_;refine tkc 2 hHeld (fun w' hSw => cell6_of ((hSw.1.block _ PLT.out).trans XPr.out)) ?_;refine tk 3 hHeld ?_;refine tk 4 hHeld ?_;refine tk 5 hHeld ?_;refine tkc 6 hHeld (fun w' hSw => (hSw.1.cell (p := ⟨bk, off + g_ * 3, none⟩) HBK.out).trans GE0.out) ?_;refine tk 7 hHeld ?_;refine tkc 8 hHeld (fun w' hSw => cell6_of ((hSw.1.block _ PLT.out).trans XPr.out)) ?_;refine tk 9 hHeld ?_;refine tk 10 hHeld ?_;refine tk 11 hHeld ?_;refine tkc 12 hHeld (fun w' hSw => (hSw.1.cell (p := ⟨bk, off + g_ * 3 + 1, none⟩) HBK.out).trans GE1.out) ?_;refine tk 13 hHeld ?_;refine tkc 14 hHeld (fun w' hSw => cell6_of ((hSw.1.block _ PLT.out).trans XPr.out)) ?_;refine tk 15 hHeld ?_;refine tk 16 hHeld ?_;refine tk 17 hHeld ?_;refine tkc 18 hHeld (fun w' hSw => (hSw.1.cell (p := ⟨bk, off + g_ * 3 + 2, none⟩) HBK.out).trans GE2.out) ?_
       refine tkr 19 (fun K hK => ?_)
       go_simp
       refine hK.out _ _ ?_ fun hHeld => ?_;exact ⟨((Below.refl q.heap.size w4).drew.alloc (by exact BSY.out) _), trivial⟩;clear hK K;try simp only [zn, Act.put]
       refine tkr 20 (fun K hK => ?_)
       rw [if_pos (by rfl)]
       refine wp_append_ints (.tmp 102) (.tmp 121) rfl (lo := q.heap.size) rfl (Og_.out.below intR ((Below.refl w4.heap.size w4).drew.alloc (Nat.le_refl _) _)) KLg_.out rfl (ints_alloc _ [e0, e1, e2] (by simp)) (mg_ + 3) rfl (by omega) (by have := BSY.out; simp; omega) ?_
       intro AE cE wE hoE hbE hkE
       have OE := Lib.hid hoE
       have GE : Hid (Below q.heap.size w4 wE) := Lib.hid (((Below.refl q.heap.size w4).drew.alloc (by exact BSY.out) _).trans hbE)
       clear hoE hbE hkE
       refine hK.out _ _ ?_ fun hHeld => ?_;exact ⟨GE.out, trivial⟩;clear hK K;try simp only [zn, Act.put]
       refine tk 21 hHeld ?_
       refine wpAnyH_done (by kernel_rfl) ?_ _
       have KLE : Hid (mg_ + 3 = ((L4 ++ (p.sigs.take g_).flatMap numsG) ++ [e0, e1, e2]).length) := Lib.hid (by rw [List.length_append, ← KLg_.out]; rfl)
       have BE := Lib.hid (Bg_.out.trans GE.out)
       go_wp2_with fail
       go_roundw
       case measure => simp [intOf]; omega
       case rel => exact ⟨g_ + 1, mg_ + 3, AE, cE, by go_num, rfl, by omega, by rw [← NX.out]; exact KLE.out, by omega, by rw [← NX.out]; exact OE.out, BE.out⟩
      ·obtain rfl : n4 = g_ := by omega
       have hlt' : ¬ (n4 : Int) < n4 := by omega
       obtain ⟨m0, m1, m2, m3, m4, m5⟩ := cell6_of XPr.out
       clear k0 k1 k2 k3 k4 k5
       have hn16 : n4 ≤ 16 := by have := NUM.out; omega
       have BS : Hid (q.heap.size ≤ w4.heap.size) := Lib.hid Bg_.out.size
       go_wp2_with ((with_reducible show wpList _ _ _ (⟨some 128, _, _, _, _, _⟩ :: _) _ _); refine wpList_append_ints rfl (.tmp 123) (.tmp 127) rfl (lo := q.heap.size) rfl (Og_.out.below intR (below_new _ _)) KLg_.out rfl (ints_alloc _ [(n5 : Int)] (by simp)) (mg_ + 1) (rfl) (by omega) (by have := BS.out; simp; omega) ?_; intro A21 c21 w21 ho21 hb21 hk21; have O21 := Lib.hid ho21; have G21 := Lib.hid hb21; have K21 := Lib.hid hk21; clear ho21 hb21 hk21)
       have B21 := Lib.hid ((Bg_.out.alloc BS.out _).trans G21.out)
       have KL21 : Hid (mg_ + 1 = ((L4 ++ (p.sigs.take n4).flatMap numsG) ++ [(n5 : Int)]).length) := Lib.hid (by rw [List.length_append, ← KLg_.out]; rfl)
       clear G21 K21 BS Og_ KLg_ Bg_
       clear m0 m1 m2 m3 m4 m5
       obtain ⟨L5, hL5⟩ : ∃ x, x = (L4 ++ (p.sigs.take n4).flatMap numsG) ++ [(n5 : Int)] := ⟨_, rfl⟩
       rw [← hL5] at O21 KL21
       have HL5 : Hid (L5 = ((([p.ver, p.par, (n2 : Int)] ++ p.secs.flatMap numsS) ++ [(n3 : Int)] ++ p.pts.flatMap numsJ) ++ [(n4 : Int)] ++ p.sigs.flatMap numsG) ++ [(n5 : Int)]) := Lib.hid (by rw [hL5, HL4.out, show p.sigs.take n4 = p.sigs by rw [HN.out.2.2.1, List.take_length]])
       clear hL5
       go_loopw [3, 9] (fun s3 s4 wr => ∃ (r_ m : Nat) (A : Option Addr) (c : Nat), s4 = .int .i64 r_ ∧ s3 = .slice A m c ∧ r_ ≤ n5 ∧ m = (L5 ++ (p.routes.take r_).flatMap numsR).length ∧ m ≤ 400 + 21 * r_ ∧ IntsOwn wr q.heap.size (.slice A m c) (L5 ++ (p.routes.take r_).flatMap numsR) ∧ Below q.heap.size q wr) (fun _ s4 _ => n5 - (intOf s4).toNat)
       case atStart => exact ⟨0, mg_ + 1, A21, c21, by go_num, rfl, by omega, by rw [show L5 ++ (p.routes.take 0).flatMap numsR = L5 by simp]; exact KL21.out, by omega, by rw [show L5 ++ (p.routes.take 0).flatMap numsR = L5 by simp]; exact O21.out, B21.out⟩
       case round =>
        obtain ⟨w5, hwy⟩ : ∃ u, u = wr := ⟨_, rfl⟩
        subst hwy
        obtain ⟨r_, mr_, Ar_, cr_, rfl, rfl, hr_, hmlr_, hmbr_, hor_, hbr_⟩ := hrel
        have KLr_ := Lib.hid hmlr_
        have Or_ := Lib.hid hor_
        have Br_ := Lib.hid hbr_
        have BSr_ : Hid (q.heap.size ≤ w5.heap.size) := Lib.hid hbr_.size
        clear hmlr_ hor_ hbr_
        have XPr := Lib.hid ((Br_.out.block _ PLT.out).trans XP.out)
        obtain ⟨k0, k1, k2, k3, k4, k5⟩ := cell6_of XPr.out
        by_cases hltr_ : r_ < n5
        ·have hlt' : (r_ : Int) < n5 := by omega
         have hir : r_ < p.routes.length := by rw [← HN.out.2.2.2]; exact hltr_
         have hi16 : r_ ≤ 16 := by have := NUM.out; omega
         obtain ⟨bk, off, e5, hbk, h0, h1, h2, h6, u3, u4, u5, h3, h4, h5, hrt⟩ := HI.out.routes.at hir
         cases e5
         obtain ⟨r, hr⟩ : ∃ x, x = p.routes[r_] := ⟨_, rfl⟩
         have hrm := (HM.out.each r_ hir).2.2
         rw [← hr] at h0 h1 h2 h6 hrt hrm
         obtain ⟨D3, f3, rfl, -, -⟩ := hrt.path.slice
         obtain ⟨D4, f4, rfl, -, -⟩ := hrt.over.slice
         obtain ⟨D5, f5, rfl, -, -⟩ := hrt.flanks.slice
         obtain ⟨l3, hl3⟩ : ∃ n, n = r.path.length := ⟨_, rfl⟩
         obtain ⟨l4, hl4⟩ : ∃ n, n = r.over.length := ⟨_, rfl⟩
         obtain ⟨l5, hl5⟩ : ∃ n, n = r.flanks.length := ⟨_, rfl⟩
         have HLR : Hid (l3 = r.path.length ∧ l4 = r.over.length ∧ l5 = r.flanks.length ∧ l3 ≤ 6 ∧ l4 ≤ 2 ∧ l5 ≤ 3) := Lib.hid (by have := hrm.path; have := hrm.over; have := hrm.flank; omega)
         have hl36 : l3 ≤ 6 := HLR.out.2.2.2.1
         have hl42 : l4 ≤ 2 := HLR.out.2.2.2.2.1
         have hl53 : l5 ≤ 3 := HLR.out.2.2.2.2.2
         rw [← hl3] at h3
         rw [← hl4] at h4
         rw [← hl5] at h5
         have R3 : Hid (IntsIn q q.heap.size (.slice D3 l3 f3) r.path) := Lib.hid (by rw [hl3]; exact hrt.path)
         have R4 : Hid (IntsIn q q.heap.size (.slice D4 l4 f4) r.over) := Lib.hid (by rw [hl4]; exact hrt.over)
         have R5 : Hid (JoinsIn q q.heap.size (.slice D5 l5 f5) r.flanks) := Lib.hid (by rw [hl5]; exact hrt.flanks)
         have HR := Lib.hid hr
         have g0 : w5.cell? ⟨bk, off + r_ * 7, none⟩ = some (.int .i64 r.id) := (Br_.out.cell (p := ⟨bk, off + r_ * 7, none⟩) hbk).trans h0
         have g1 : w5.cell? ⟨bk, off + r_ * 7 + 1, none⟩ = some (.int .i64 r.entry) := (Br_.out.cell (p := ⟨bk, off + r_ * 7 + 1, none⟩) hbk).trans h1
         have g2 : w5.cell? ⟨bk, off + r_ * 7 + 2, none⟩ = some (.int .i64 r.exit) := (Br_.out.cell (p := ⟨bk, off + r_ * 7 + 2, none⟩) hbk).trans h2
         have g3 : w5.cell? ⟨bk, off + r_ * 7 + 3, none⟩ = some (.slice D3 l3 f3) := (Br_.out.cell (p := ⟨bk, off + r_ * 7 + 3, none⟩) hbk).trans h3
         have g4 : w5.cell? ⟨bk, off + r_ * 7 + 4, none⟩ = some (.slice D4 l4 f4) := (Br_.out.cell (p := ⟨bk, off + r_ * 7 + 4, none⟩) hbk).trans h4
         have g5 : w5.cell? ⟨bk, off + r_ * 7 + 5, none⟩ = some (.slice D5 l5 f5) := (Br_.out.cell (p := ⟨bk, off + r_ * 7 + 5, none⟩) hbk).trans h5
         have g6 : w5.cell? ⟨bk, off + r_ * 7 + 6, none⟩ = some (.int .i64 r.timer) := (Br_.out.cell (p := ⟨bk, off + r_ * 7 + 6, none⟩) hbk).trans h6
         clear h0 h1 h2 h3 h4 h5 h6 hrt hrm hr hl3 hl4 hl5 hbk
         have XX0 := heap_alloc_self w5 (.cells #[.int .i64 0, .int .i64 0, .int .i64 0, .slice none 0 0, .slice none 0 0, .slice none 0 0, .int .i64 0] 44)
         have hb5 := below_setRow (below_new w5 (.cells #[.int .i64 0, .int .i64 0, .int .i64 0, .slice none 0 0, .slice none 0 0, .slice none 0 0, .int .i64 0] 44)) (Nat.le_refl _) #[.int .i64 r.id, .int .i64 r.entry, .int .i64 r.exit, .slice D3 l3 f3, .slice D4 l4 f4, .slice D5 l5 f5, .int .i64 r.timer]
         have hx5 := setRow_heap (w5.alloc (.cells #[.int .i64 0, .int .i64 0, .int .i64 0, .slice none 0 0, .slice none 0 0, .slice none 0 0, .int .i64 0] 44)) w5.heap.size _ #[.int .i64 r.id, .int .i64 r.entry, .int .i64 r.exit, .slice D3 l3 f3, .slice D4 l4 f4, .slice D5 l5 f5, .int .i64 r.timer] 44 _ XX0
         go_upto_region 26 with ((with_reducible show wpList _ _ _ (⟨none, _, _, _, _, _⟩ :: _) _ _); refine wpList_store_rowS rfl _ (.tmp 10) (.tmp 140) rfl w5.heap.size rfl (c' := #[.int .i64 r.id, .int .i64 r.entry, .int .i64 r.exit, .slice D3 l3 f3, .slice D4 l4 f4, .slice D5 l5 f5, .int .i64 r.timer]) rfl XX0 infoRoute7 rfl (by simp [Value.oneCell']) ?_)
         generalize (w5.alloc (.cells #[.int .i64 0, .int .i64 0, .int .i64 0, .slice none 0 0, .slice none 0 0, .slice none 0 0, .int .i64 0] 44)).setRow w5.heap.size #[.int .i64 r.id, .int .i64 r.entry, .int .i64 r.exit, .slice D3 l3 f3, .slice D4 l4 f4, .slice D5 l5 f5, .int .i64 r.timer] = u10 at hb5 hx5 ⊢
         obtain ⟨p10, hp5⟩ : ∃ n, n = w5.heap.size := ⟨_, rfl⟩
         rw [← hp5] at hx5 ⊢
         have X10 := Lib.hid hx5
         have O10 := Lib.hid (Or_.out.below intR hb5)
         have B10 := Lib.hid (Br_.out.trans (hb5.mono Br_.out.size))
         clear XX0 hb5 hx5 hp5
         clear g0 g1 g2 g3 g4 g5 g6 k0 k1 k2 k3 k4 k5 XPr
         have KL10 := KLr_
         clear KLr_ Or_ Br_ BSr_
         obtain ⟨m0, m1, m2, m3, m4, m5, m6⟩ := cell7_of X10.out
         have BS : Hid (q.heap.size ≤ u10.heap.size) := Lib.hid B10.out.size
         go_upto_region 27 with ((with_reducible show wpList _ _ _ (⟨some 152, _, _, _, _, _⟩ :: _) _ _); refine wpList_append_ints rfl (.tmp 141) (.tmp 151) rfl (lo := q.heap.size) rfl (O10.out.below intR (below_new _ _)) KL10.out rfl (ints_alloc _ [r.id, r.entry, r.exit, (l3 : Int)] (by simp)) (mr_ + 4) (rfl) (by omega) (by have := BS.out; simp; omega) ?_; intro A26 c26 w26 ho26 hb26 hk26; have O26 := Lib.hid ho26; have G26 := Lib.hid hb26; have K26 := Lib.hid hk26; clear ho26 hb26 hk26)
         have B26 := Lib.hid ((B10.out.alloc BS.out _).trans G26.out)
         have X26 := Lib.hid (K26.out _ _ _ _ (by decide) ((heap_alloc_lt u10 _ (heap_lt X10.out)).trans X10.out))
         have KL26 : Hid (mr_ + 4 = ((L5 ++ (p.routes.take r_).flatMap numsR) ++ [r.id, r.entry, r.exit, (l3 : Int)]).length) := Lib.hid (by rw [List.length_append, ← KL10.out]; rfl)
         clear G26 K26 BS O10 KL10 B10 X10
         clear m0 m1 m2 m3 m4 m5 m6
         obtain ⟨m0, m1, m2, m3, m4, m5, m6⟩ := cell7_of X26.out
         have BS : Hid (q.heap.size ≤ w26.heap.size) := Lib.hid B26.out.size
         go_upto_region 28 with ((with_reducible show wpList _ _ _ (⟨some 156, _, _, _, _, _⟩ :: _) _ _); refine wpList_append_ints rfl (.tmp 153) (.tmp 155) rfl (lo := q.heap.size) rfl (O26.out) KL26.out rfl (R3.out.below intR B26.out) (mr_ + 4 + l3) (by have := HLR.out; omega) (by omega) (BS.out) ?_; intro A27 c27 w27 ho27 hb27 hk27; have O27 := Lib.hid ho27; have G27 := Lib.hid hb27; have K27 := Lib.hid hk27; clear ho27 hb27 hk27)
         have B27 := Lib.hid (B26.out.trans G27.out)
         have X27 := Lib.hid (K27.out _ _ _ _ (by decide) X26.out)
         have KL27 : Hid (mr_ + 4 + l3 = (((L5 ++ (p.routes.take r_).flatMap numsR) ++ [r.id, r.entry, r.exit, (l3 : Int)]) ++ r.path).length) := Lib.hid (by rw [List.length_append, ← KL26.out]; have := HLR.out; omega)
         clear G27 K27 BS O26 KL26 B26 X26
         clear m0 m1 m2 m3 m4 m5 m6
         obtain ⟨m0, m1, m2, m3, m4, m5, m6⟩ := cell7_of X27.out
         have BS : Hid (q.heap.size ≤ w27.heap.size) := Lib.hid B27.out.size
         go_upto_region 29 with ((with_reducible show wpList _ _ _ (⟨some 162, _, _, _, _, _⟩ :: _) _ _); refine wpList_append_ints rfl (.tmp 157) (.tmp 161) rfl (lo := q.heap.size) rfl (O27.out.below intR (below_new _ _)) KL27.out rfl (ints_alloc _ [(l4 : Int)] (by simp)) (mr_ + 4 + l3 + 1) (rfl) (by omega) (by have := BS.out; simp; omega) ?_; intro A28 c28 w28 ho28 hb28 hk28; have O28 := Lib.hid ho28; have G28 := Lib.hid hb28; have K28 := Lib.hid hk28; clear ho28 hb28 hk28)
         have B28 := Lib.hid ((B27.out.alloc BS.out _).trans G28.out)
         have X28 := Lib.hid (K28.out _ _ _ _ (by decide) ((heap_alloc_lt w27 _ (heap_lt X27.out)).trans X27.out))
         have KL28 : Hid (mr_ + 4 + l3 + 1 = ((((L5 ++ (p.routes.take r_).flatMap numsR) ++ [r.id, r.entry, r.exit, (l3 : Int)]) ++ r.path) ++ [(l4 : Int)]).length) := Lib.hid (by rw [List.length_append, ← KL27.out]; rfl)
         clear G28 K28 BS O27 KL27 B27 X27
         clear m0 m1 m2 m3 m4 m5 m6
         obtain ⟨m0, m1, m2, m3, m4, m5, m6⟩ := cell7_of X28.out
         have BS : Hid (q.heap.size ≤ w28.heap.size) := Lib.hid B28.out.size
         go_upto_region 30 with ((with_reducible show wpList _ _ _ (⟨some 166, _, _, _, _, _⟩ :: _) _ _); refine wpList_append_ints rfl (.tmp 163) (.tmp 165) rfl (lo := q.heap.size) rfl (O28.out) KL28.out rfl (R4.out.below intR B28.out) (mr_ + 4 + l3 + 1 + l4) (by have := HLR.out; omega) (by omega) (BS.out) ?_; intro A29 c29 w29 ho29 hb29 hk29; have O29 := Lib.hid ho29; have G29 := Lib.hid hb29; have K29 := Lib.hid hk29; clear ho29 hb29 hk29)
         have B29 := Lib.hid (B28.out.trans G29.out)
         have X29 := Lib.hid (K29.out _ _ _ _ (by decide) X28.out)
         have KL29 : Hid (mr_ + 4 + l3 + 1 + l4 = (((((L5 ++ (p.routes.take r_).flatMap numsR) ++ [r.id, r.entry, r.exit, (l3 : Int)]) ++ r.path) ++ [(l4 : Int)]) ++ r.over).length) := Lib.hid (by rw [List.length_append, ← KL28.out]; have := HLR.out; omega)
         clear G29 K29 BS O28 KL28 B28 X28
         clear m0 m1 m2 m3 m4 m5 m6
         obtain ⟨m0, m1, m2, m3, m4, m5, m6⟩ := cell7_of X29.out
         have BS : Hid (q.heap.size ≤ w29.heap.size) := Lib.hid B29.out.size
         go_upto_region 31 with ((with_reducible show wpList _ _ _ (⟨some 172, _, _, _, _, _⟩ :: _) _ _); refine wpList_append_ints rfl (.tmp 167) (.tmp 171) rfl (lo := q.heap.size) rfl (O29.out.below intR (below_new _ _)) KL29.out rfl (ints_alloc _ [(l5 : Int)] (by simp)) (mr_ + 4 + l3 + 1 + l4 + 1) (rfl) (by omega) (by have := BS.out; simp; omega) ?_; intro A30 c30 w30 ho30 hb30 hk30; have O30 := Lib.hid ho30; have G30 := Lib.hid hb30; have K30 := Lib.hid hk30; clear ho30 hb30 hk30)
         have B30 := Lib.hid ((B29.out.alloc BS.out _).trans G30.out)
         have X30 := Lib.hid (K30.out _ _ _ _ (by decide) ((heap_alloc_lt w29 _ (heap_lt X29.out)).trans X29.out))
         have KL30 : Hid (mr_ + 4 + l3 + 1 + l4 + 1 = ((((((L5 ++ (p.routes.take r_).flatMap numsR) ++ [r.id, r.entry, r.exit, (l3 : Int)]) ++ r.path) ++ [(l4 : Int)]) ++ r.over) ++ [(l5 : Int)]).length) := Lib.hid (by rw [List.length_append, ← KL29.out]; rfl)
         clear G30 K30 BS O29 KL29 B29 X29
         clear m0 m1 m2 m3 m4 m5 m6
         obtain ⟨L6, hL6⟩ : ∃ x, x = ((((((L5 ++ (p.routes.take r_).flatMap numsR) ++ [r.id, r.entry, r.exit, (l3 : Int)]) ++ r.path) ++ [(l4 : Int)]) ++ r.over) ++ [(l5 : Int)]) := ⟨_, rfl⟩
         rw [← hL6] at O30 KL30
         have HL6 := Lib.hid hL6
         clear hL6
         obtain ⟨m30, hm30⟩ : ∃ m, m = mr_ + 4 + l3 + 1 + l4 + 1 := ⟨_, rfl⟩
         rw [← hm30] at O30 KL30 ⊢
         have HM30 : Hid (m30 ≤ mr_ + 14) := Lib.hid (by omega)
         clear hm30 hl36 hl42
         have hm30 : m30 ≤ mr_ + 14 := HM30.out
         go_wp2_with fail
         go_loopw [3, 11] (fun s3 s4 wr => ∃ (f_ m : Nat) (A : Option Addr) (c : Nat), s4 = .int .i64 f_ ∧ s3 = .slice A m c ∧ f_ ≤ l5 ∧ m = (L6 ++ (r.flanks.take f_).flatMap numsJ).length ∧ m ≤ mr_ + 14 + 2 * f_ ∧ IntsOwn wr q.heap.size (.slice A m c) (L6 ++ (r.flanks.take f_).flatMap numsJ) ∧ Below q.heap.size q wr ∧ wr.heap[p10]? = some (.cells #[.int .i64 r.id, .int .i64 r.entry, .int .i64 r.exit, .slice D3 l3 f3, .slice D4 l4 f4, .slice D5 l5 f5, .int .i64 r.timer] 44 (0, 0))) (fun _ s4 _ => l5 - (intOf s4).toNat)
         case atStart => exact ⟨0, m30, A30, c30, by go_num, rfl, by omega, by rw [show L6 ++ (r.flanks.take 0).flatMap numsJ = L6 by simp]; exact KL30.out, by omega, by rw [show L6 ++ (r.flanks.take 0).flatMap numsJ = L6 by simp]; exact O30.out, B30.out, X30.out⟩
         case round =>
          obtain ⟨w6, hwy⟩ : ∃ u, u = wr := ⟨_, rfl⟩
          subst hwy
          obtain ⟨f_, mf_, Af_, cf_, rfl, rfl, hf_, hmlf_, hmbf_, hof_, hbf_, hx34⟩ := hrel
          have KLf_ := Lib.hid hmlf_
          have Of_ := Lib.hid hof_
          have Bf_ := Lib.hid hbf_
          have BSf_ : Hid (q.heap.size ≤ w6.heap.size) := Lib.hid hbf_.size
          have X34 := Lib.hid hx34
          clear hmlf_ hof_ hbf_ hx34
          obtain ⟨k0, k1, k2, k3, k4, k5, k6⟩ := cell7_of X34.out
          by_cases hltf_ : f_ < l5
          ·have hlt' : (f_ : Int) < l5 := by omega
           have hirf_ : f_ < r.flanks.length := by rw [← HLR.out.2.2.1]; exact hltf_
           have hi16 : f_ ≤ 16 := by have := NUM.out; omega
           obtain ⟨bk, off, e5, hbk, hc0, hc1⟩ := R5.out.at hirf_
           cases e5
           obtain ⟨e0, e1, hs⟩ : ∃ a b, r.flanks[f_] = (a, b) := ⟨_, _, rfl⟩
           rw [hs] at hc0 hc1
           have NX : Hid ((L6 ++ (r.flanks.take f_).flatMap numsJ) ++ [e0, e1] = L6 ++ (r.flanks.take (f_ + 1)).flatMap numsJ) := Lib.hid (by rw [flat_snoc numsJ hirf_, hs, List.append_assoc]; rfl)
           have HBK := Lib.hid hbk
           have GE0 : Hid (w6.cell? ⟨bk, off + f_ * 2, none⟩ = some (.int .i64 e0)) := Lib.hid ((Bf_.out.cell (p := ⟨bk, off + f_ * 2, none⟩) hbk).trans hc0)
           have GE1 : Hid (w6.cell? ⟨bk, off + f_ * 2 + 1, none⟩ = some (.int .i64 e1)) := Lib.hid ((Bf_.out.cell (p := ⟨bk, off + f_ * 2 + 1, none⟩) hbk).trans hc1)
           clear hs hbk hc0 hc1
           have BSY := BSf_
           go_upto_region 34 with fail
           clear k0 k1 k2 k3 k4 k5 k6
           refine wp_region_held_drew (S := fun v => Below q.heap.size w6 v ∧ v.heap[p10]? = w6.heap[p10]?) (by kernel_rfl) ⟨(Below.refl q.heap.size w6).drew, rfl⟩ (fun hHeld => ?_)
           refine tk 0 hHeld ?_;refine tk 1 hHeld ?_;refine tkc 2 hHeld (fun w' hSw => cell7_of (hSw.2.trans X34.out)) ?_;refine tk 3 hHeld ?_;refine tk 4 hHeld ?_;refine tk 5 hHeld ?_;refine tkc 6 hHeld (fun w' hSw => (hSw.1.cell (p := ⟨bk, off + f_ * 2, none⟩) HBK.out).trans GE0.out) ?_;refine tk 7 hHeld ?_;refine tkc 8 hHeld (fun w' hSw => cell7_of (hSw.2.trans X34.out)) ?_;refine tk 9 hHeld ?_;refine tk 10 hHeld ?_;refine tk 11 hHeld ?_;refine tkc 12 hHeld (fun w' hSw => (hSw.1.cell (p := ⟨bk, off + f_ * 2 + 1, none⟩) HBK.out).trans GE1.out) ?_
           refine tkr 13 (fun K hK => ?_)
           go_simp
           refine hK.out _ _ ?_ fun hHeld => ?_;exact ⟨((Below.refl q.heap.size w6).drew.alloc (by exact BSY.out) _), (heap_alloc_lt w6.drew _ (heap_lt X34.out))⟩;clear hK K;try simp only [zn, Act.put]
           refine tkr 14 (fun K hK => ?_)
           rw [if_pos (by rfl)]
           refine wp_append_ints (.tmp 180) (.tmp 193) rfl (lo := q.heap.size) rfl (Of_.out.below intR ((Below.refl w6.heap.size w6).drew.alloc (Nat.le_refl _) _)) KLf_.out rfl (ints_alloc _ [e0, e1] (by simp)) (mf_ + 2) rfl (by omega) (by have := BSY.out; simp; omega) ?_
           intro AE cE wE hoE hbE hkE
           have OE := Lib.hid hoE
           have GE : Hid (Below q.heap.size w6 wE) := Lib.hid (((Below.refl q.heap.size w6).drew.alloc (by exact BSY.out) _).trans hbE)
           have tX : wE.heap[p10]? = w6.heap[p10]? := (hkE _ _ _ _ (by decide) ((heap_alloc_lt w6.drew _ (heap_lt X34.out)).trans X34.out)).trans X34.out.symm
           clear hoE hbE hkE
           refine hK.out _ _ ?_ fun hHeld => ?_;exact ⟨GE.out, tX⟩;clear hK K;try simp only [zn, Act.put]
           refine tk 15 hHeld ?_
           refine wpAnyH_done (by kernel_rfl) ?_ _
           have KLE : Hid (mf_ + 2 = ((L6 ++ (r.flanks.take f_).flatMap numsJ) ++ [e0, e1]).length) := Lib.hid (by rw [List.length_append, ← KLf_.out]; rfl)
           have BE := Lib.hid (Bf_.out.trans GE.out)
           have XE := Lib.hid (tX.trans X34.out)
           clear tX
           go_wp2_with fail
           go_roundw
           case measure => simp [intOf]; omega
           case rel => exact ⟨f_ + 1, mf_ + 2, AE, cE, by go_num, rfl, by omega, by rw [← NX.out]; exact KLE.out, by omega, by rw [← NX.out]; exact OE.out, BE.out, XE.out⟩
          ·obtain rfl : l5 = f_ := by omega
           have hlt' : ¬ (l5 : Int) < l5 := by omega
           obtain ⟨m0, m1, m2, m3, m4, m5, m6⟩ := cell7_of X34.out
           have BS : Hid (q.heap.size ≤ w6.heap.size) := BSf_
           go_wp2_with ((with_reducible show wpList _ _ _ (⟨some 199, _, _, _, _, _⟩ :: _) _ _); refine wpList_append_ints rfl (.tmp 195) (.tmp 198) rfl (lo := q.heap.size) rfl (Of_.out.below intR (below_new _ _)) KLf_.out rfl (ints_alloc _ [r.timer] (by simp)) (mf_ + 1) (rfl) (by omega) (by have := BS.out; simp; omega) ?_; intro A35 c35 w35 ho35 hb35 hk35; have O35 := Lib.hid ho35; have G35 := Lib.hid hb35; have K35 := Lib.hid hk35; clear ho35 hb35 hk35)
           have B35 := Lib.hid ((Bf_.out.alloc BS.out _).trans G35.out)
           have NX5 : Hid ((L6 ++ (r.flanks.take l5).flatMap numsJ) ++ [r.timer] = L5 ++ (p.routes.take (r_ + 1)).flatMap numsR) := Lib.hid (by rw [HL6.out, flat_snoc numsR hir, ← HR.out, HLR.out.2.2.1, List.take_length, numsR, HLR.out.1, HLR.out.2.1]; simp)
           have KL35 : Hid (mf_ + 1 = ((L6 ++ (r.flanks.take l5).flatMap numsJ) ++ [r.timer]).length) := Lib.hid (by rw [List.length_append, ← KLf_.out]; rfl)
           clear G35 K35 m0 m1 m2 m3 m4 m5 m6
           go_wp2_with fail
           go_roundw
           case measure => simp [intOf]; omega
           case rel => exact ⟨r_ + 1, mf_ + 1, A35, c35, by go_num, rfl, by omega, by rw [← NX5.out]; exact KL35.out, by omega, by rw [← NX5.out]; exact O35.out, B35.out⟩
        ·obtain rfl : n5 = r_ := by omega
         have hlt' : ¬ (n5 : Int) < n5 := by omega
         have HE : Hid (L5 ++ (p.routes.take n5).flatMap numsR = numsP p) := Lib.hid (by rw [HL5.out, show p.routes.take n5 = p.routes by rw [HN.out.2.2.2, List.take_length]]; simp [numsP, HN.out.1, HN.out.2.1, HN.out.2.2.1, HN.out.2.2.2])
         have KF : Hid (mr_ = (numsP p).length) := Lib.hid (by rw [← HE.out]; exact KLr_.out)
         go_wp2_with fail
         go_ret
         exact ⟨_, _, _, rfl, KF.out, by rw [← HE.out]; exact Or_.out.mono PLE.out, BQ.out.trans (Br_.out.mono BQ.out.size)⟩
end Go.Proofs.YteloiajocjahmaaGreatDoor
