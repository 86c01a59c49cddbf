/-
 The program's package pack: Write, Read; its contract whole.
 Conditions: none.
-/
import Derived.Test.YteloiajocjahmaaGreatDoorSPckKM
import Derived.Test.YteloiajocjahmaaGreatDoorSGHmacN
import Derived.Test.YteloiajocjahmaaGreatDoorSPckPJ
import Derived.Test.YteloiajocjahmaaGreatDoorSGTxt
import Derived.Test.YteloiajocjahmaaGreatDoorSGHmac
set_option linter.unusedVariables false
set_option linter.unusedSimpArgs false
set_option maxRecDepth 100000
namespace Go.Proofs.YteloiajocjahmaaGreatDoor
open Go.RowKit

set_option maxHeartbeats 8000000 in
theorem pwrite_any (hp : PckSaid) (v y : Value) (key : List UInt8) (p : Pl) (w : World) (hT : Tab w) (hk : Txt w w.heap.size v key) (h : PlanV w w.heap.size y p) :
  Calls Tryz.prog 5 #[v, y] w fun e w' => ∃ u, e = .returned (.tuple #[u, .int .i64 (writeE key p)]) ∧ TxtOwn w' w.heap.size u (writeV key p) ∧ Below w.heap.size w w' := by
 have HT := Lib.hid hT
 have T0 : Hid (0 < w.heap.size) := Lib.hid (tab_pos hT)
 have HK0 := Lib.hid hk
 obtain ⟨KA, kc, rfl, -⟩ := hk
 obtain ⟨kn, hkn⟩ : ∃ n, n = key.length := ⟨_, rfl⟩
 have HKN := Lib.hid hkn
 have HK : Hid (Txt w w.heap.size (.slice KA kn kc) key) := Lib.hid (by rw [hkn]; exact HK0.out)
 rw [← hkn]
 clear hkn HK0 hT
 obtain ⟨A2, c2, A3, c3, A4, c4, A5, c5, n2, n3, n4, n5, rfl, hm2, hm3, hm4, hm5, HCP, HIN, HN⟩ := open_plan h
 have hq0 := heap_alloc_self w (.cells #[.int .i64 p.ver, .int .i64 p.par, .slice A2 n2 c2, .slice A3 n3 c3, .slice A4 n4 c4, .slice A5 n5 c5] 28)
 have hqb := below_new w (.cells #[.int .i64 p.ver, .int .i64 p.par, .slice A2 n2 c2, .slice A3 n3 c3, .slice A4 n4 c4, .slice A5 n5 c5] 28)
 go_enter Tryz.func5, Tryz.ntmps5
 go_upto_region 1 with fail
 generalize w.alloc (.cells #[.int .i64 p.ver, .int .i64 p.par, .slice A2 n2 c2, .slice A3 n3 c3, .slice A4 n4 c4, .slice A5 n5 c5] 28) = q at hq0 hqb ⊢
 have XP := Lib.hid hq0
 have BQ := Lib.hid hqb
 have HKq := Lib.hid ((HK.out.below hqb).more hqb.size)
 have PV : Hid (PlanV q q.heap.size (.agg #[.int .i64 p.ver, .int .i64 p.par, .slice A2 n2 c2, .slice A3 n3 c3, .slice A4 n4 c4, .slice A5 n5 c5]) p) := Lib.hid ⟨_, _, _, _, rfl, (HIN.out.below hqb).more hqb.size⟩
 clear hq0 hqb
 by_cases hk64 : 64 < kn
 ·have HE : Hid (writeE key p = 3 ∧ writeV key p = []) := Lib.hid (by
   have e : writeE key p = 3 := by rw [writeE, if_pos (by rw [← HKN.out]; exact hk64)]
   exact ⟨e, by rw [writeV, e]; rfl⟩)
  have d0 : (64 : Int) < kn := by omega
  go_wp2_with fail
  refine bodyPost_ret (results_tmp2 rfl _ _ _) rfl ?_
  exact ⟨_, by rw [HE.out.1]; rfl, by rw [HE.out.2]; exact TxtOwn.nil_, BQ.out⟩
 have d0 : ¬ (64 : Int) < kn := by omega
 have HK64 : Hid (key.length ≤ 64) := Lib.hid (by rw [← HKN.out]; omega)
 have WE : Hid (writeE key p = textE p) := Lib.hid (by rw [writeE, if_neg (by have := HK64.out; omega)])
 clear hk64
 obtain ⟨k0, k1, k2, k3, k4, k5⟩ := cell6_of XP.out
 go_wp2_with fail
 refine (hp.text _ p q PV.out).mono ?_
 rintro e w1 ⟨u, rfl, hu, b1⟩
 have U1 : Hid (TxtOwn w1 w.heap.size u (textV p)) := Lib.hid (TxtOwn.mono hu BQ.out.size)
 have B1 := Lib.hid (BQ.out.trans (b1.mono BQ.out.size))
 have HK1 := Lib.hid ((HKq.out.below b1).more b1.size)
 clear hu b1 k0 k1 k2 k3 k4 k5 HKq PV XP
 rcases text_cases p with ⟨hm, he, hv⟩ | ⟨hm, he, hv⟩
 rotate_left
 ·have HE : Hid (writeE key p = 8 ∧ writeV key p = []) := Lib.hid ⟨by rw [WE.out, he], by rw [writeV, WE.out, he]; rfl⟩
  rw [he]
  clear hm he hv
  go_wp2_with fail
  refine bodyPost_ret (results_tmp2 rfl _ _ _) rfl ?_
  exact ⟨_, by rw [HE.out.1]; rfl, by rw [HE.out.2]; exact TxtOwn.nil_, B1.out⟩
 have HE : Hid (writeE key p = 0 ∧ writeV key p = packL key p) := Lib.hid (by
  have e : writeE key p = 0 := by rw [WE.out, he]
  exact ⟨e, by rw [writeV, if_pos e]⟩)
 rw [hv] at U1
 rw [he]
 have LT : Hid ((textL p).length ≤ 610) := Lib.hid (text_len hm).1
 have X1 : Hid (Txt w1 w1.heap.size u (textL p)) := Lib.hid (U1.out.txt (by have := LT.out; unfold maxLen; omega))
 obtain ⟨TA, tc, rfl, htc⟩ := U1.out.len
 obtain ⟨tn, htn⟩ : ∃ n, n = (textL p).length := ⟨_, rfl⟩
 rw [← htn] at X1 U1 ⊢
 clear hm he hv htn htc
 go_wp2_with fail
 refine (tag_any _ _ key (textL p) HK64.out (by have := LT.out; omega) w1 (HT.out.below B1.out T0.out) HK1.out X1.out).mono ?_
 rintro e w2 ⟨rfl, b2⟩
 have U2 := Lib.hid (U1.out.below b2)
 have B2 := Lib.hid (B1.out.trans (b2.mono B1.out.size))
 have TLN : Hid ((tagL key (textL p)).length = 32) := Lib.hid (tagL_length _ _)
 have WP : Hid (textL p ++ tagL key (textL p) = packL key p) := Lib.hid rfl
 clear b2 X1 U1 HK1 B1 BQ
 go_upto_region 7 with ((with_reducible show wpList _ _ _ (⟨none, _, _, _, _, _⟩ :: _) _ _); refine wpList_store_new (op := ⟨none, _, _, _, _, _⟩) rfl _ _ rfl rfl rfl TLN.out ?_; intro q3 hx3 hb3; have X8 := hx3; have D3 := hb3; clear hx3 hb3)
 have B3 := Lib.hid (B2.out.trans (D3.out.mono B2.out.size))
 have U3 := Lib.hid (U2.out.below D3.out)
 have TT : Hid (Txt q3 q3.heap.size (.slice (some ⟨w2.heap.size, 0, none⟩) 32 32) (tagL key (textL p))) := Lib.hid (by
  have h := txt_of_block X8.out (by rw [TLN.out]; decide)
  rw [TLN.out] at h
  exact h)
 clear U2 B2 D3
 go_wp2_with ((with_reducible show wpList _ _ _ (⟨some 28, _, _, _, _, _⟩ :: _) _ _); refine wpList_append_bytes rfl (.tmp 26) (.tmp 27) rfl rfl U3.out rfl TT.out (by have := LT.out; have := TLN.out; omega) B3.out.size ?_; intro v6 w6 ho6 hb6 _; have O6 := Lib.hid ho6; have B6 := Lib.hid hb6; clear ho6 hb6)
 refine bodyPost_ret (results_tmp2 rfl _ _ _) rfl ?_
 exact ⟨_, by rw [HE.out.1]; rfl, by rw [HE.out.2, ← WP.out]; exact O6.out, B3.out.trans B6.out⟩
theorem run_arrayAt32 (a : Option Addr) (cap : Nat) (w : World) : (Instr.arrayAt 47 (.slice a 32 cap)).run Tryz.prog w = .ok (.pointer a) w := by
 simp [Instr.arrayAt, Sem.run_bind, run_underlying Tryz.underlying47 w]
theorem run_load_text32 {w : World} {B b k c n : Nat} {xs : List UInt8} (h : Txt w B (.slice (some ⟨b, k, none⟩) n c) xs) (hl : xs.length = 32) : (Instr.loadAt 47 (.pointer (some ⟨b, k, none⟩))).run Tryz.prog w = .ok (.agg (rowB xs)) w := by
 obtain ⟨A', c', e, -, -, -, h3⟩ := h
 cases e
 obtain ⟨b', o', e, -, hc⟩ := h3 (by omega)
 cases e
 have hr : w.rangeAt b k (xs.map u8) := fun j v hv => by
  rw [List.getElem?_map, Option.map_eq_some_iff] at hv
  obtain ⟨x, hx, rfl⟩ := hv
  obtain ⟨h1, rfl⟩ := List.getElem?_eq_some_iff.1 hx
  exact hc j h1
 exact run_loadAt_mid w b k 47 _ _ hr Tryz.underlying47 rfl (by rw [List.length_map, hl]; exact zero32.2)
theorem readE_tag {key b : List UInt8} (hk : key.length ≤ 64) (hb : b.length ≤ 2048) (h32 : 32 ≤ b.length) (m : Nat) (hm : m + 32 = b.length) :
  (tagL key (b.take m) ≠ b.drop m → readE key b = 120 ∧ readP key b = zPl) ∧ (tagL key (b.take m) = b.drop m → readE key b = parseE (b.take m) ∧ readP key b = parseP (b.take m)) := by
 obtain rfl : m = b.length - 32 := by omega
 have h1 : ¬ (64 < key.length ∨ 2048 < b.length) := by omega
 have h2 : ¬ b.length < 32 := by omega
 refine ⟨fun h => ?_, fun h => ?_⟩
 ·have e : readE key b = 120 := by rw [readE, if_neg h1, if_neg h2, if_pos h]
  exact ⟨e, read_not (by rw [e]; decide)⟩
 ·have e : readE key b = parseE (b.take (b.length - 32)) := by rw [readE, if_neg h1, if_neg h2, if_neg (by simpa using h)]
  refine ⟨e, ?_⟩
  rw [readP, e]
  rcases parse_cases (b.take (b.length - 32)) with ⟨p, -, -, g1, -⟩ | ⟨-, g1, g2⟩
  ·rw [if_pos g1]
  ·rw [if_neg (by rw [g1]; decide), g2]
set_option maxHeartbeats 8000000 in
theorem pread_any (hp : PckSaid) (v y : Value) (key b : List UInt8) (w : World) (hT : Tab w) (hk : Txt w w.heap.size v key) (hb : Txt w w.heap.size y b) (hl : b.length ≤ 10000) :
  Calls Tryz.prog 7 #[v, y] w fun e w' => ∃ u2 u3 u4 u5, e = .returned (.tuple #[.agg #[.int .i64 (readP key b).ver, .int .i64 (readP key b).par, u2, u3, u4, u5], .int .i64 (readE key b)]) ∧ PlOwn w' w.heap.size u2 u3 u4 u5 (readP key b) ∧ Below w.heap.size w w' := by
 have HT := Lib.hid hT
 have T0 : Hid (0 < w.heap.size) := Lib.hid (tab_pos hT)
 have HK0 := Lib.hid hk
 have HB0 := Lib.hid hb
 obtain ⟨KA, kc, rfl, -⟩ := hk
 obtain ⟨BA, bc, rfl, hbc, hbm, -⟩ := hb
 obtain ⟨kn, hkn⟩ : ∃ n, n = key.length := ⟨_, rfl⟩
 obtain ⟨bn, hbn⟩ : ∃ n, n = b.length := ⟨_, rfl⟩
 have HN : Hid (kn = key.length ∧ bn = b.length) := Lib.hid ⟨hkn, hbn⟩
 have HK : Hid (Txt w w.heap.size (.slice KA kn kc) key) := Lib.hid (by rw [hkn]; exact HK0.out)
 have HB : Hid (Txt w w.heap.size (.slice BA bn bc) b) := Lib.hid (by rw [hbn]; exact HB0.out)
 rw [← hbn] at hbc
 have HBC : Hid (bn ≤ bc ∧ bc ≤ maxLen) := Lib.hid ⟨hbc, hbm⟩
 rw [← hkn, ← hbn]
 clear hkn hbn HK0 HB0 hT hl hbc hbm
 have hx4 := heap_alloc_self w (.cells #[.int .i64 0, .int .i64 0, .slice none 0 0, .slice none 0 0, .slice none 0 0, .slice none 0 0] 28)
 have hqb := below_new w (.cells #[.int .i64 0, .int .i64 0, .slice none 0 0, .slice none 0 0, .slice none 0 0, .slice none 0 0] 28)
 go_enter Tryz.func7, Tryz.ntmps7
 go_upto_region 1 with fail
 generalize w.alloc (.cells #[.int .i64 0, .int .i64 0, .slice none 0 0, .slice none 0 0, .slice none 0 0, .slice none 0 0] 28) = q at hx4 hqb ⊢
 obtain ⟨p4, hp4⟩ : ∃ n, n = w.heap.size := ⟨_, rfl⟩
 have P4 : Hid (w.heap.size ≤ p4) := Lib.hid (by omega)
 rw [← hp4] at hx4 ⊢
 have X4 := Lib.hid hx4
 have BQ := Lib.hid hqb
 have KQ := Lib.hid ((HK.out.below hqb).more hqb.size)
 have BB := Lib.hid ((HB.out.below hqb).more hqb.size)
 clear hx4 hqb hp4 HK HB
 by_cases h1 : 64 < kn
 ·have HBAD : Hid (readE key b = 3 ∧ readP key b = zPl) := Lib.hid (by
   have e : readE key b = 3 := by rw [readE, if_pos (.inl (by have := HN.out; omega))]
   exact ⟨e, read_not (by rw [e]; decide)⟩)
  have d0 : (64 : Int) < kn := by omega
  have d1 : decide ((64 : Int) < kn) = true := decide_eq_true d0
  clear h1
  go_wp2_with ((with_reducible show wpList _ _ _ (⟨none, _, _, _, _, _⟩ :: _) _ _); refine wpList_store_rowS rfl _ (.tmp 4) (.tmp 19) rfl p4 rfl (c' := #[.int .i64 0, .int .i64 0, .slice none 0 0, .slice none 0 0, .slice none 0 0, .slice none 0 0]) rfl X4.out infoPlanA rfl (by simp [Value.oneCell']) ?_)
  refine bodyPost_ret (results_rowS_tmp (c := #[.int .i64 0, .int .i64 0, .slice none 0 0, .slice none 0 0, .slice none 0 0, .slice none 0 0]) rfl _ _ p4 rfl (setRow_heap _ _ _ _ _ _ X4.out) Tryz.underlying28 infoPlanA (.int .i64 3) rfl) rfl ?_
  rw [HBAD.out.1, HBAD.out.2]
  exact ⟨_, _, _, _, rfl, ⟨ListOwn.nil_, ListOwn.nil_, ListOwn.nil_, ListOwn.nil_⟩, below_setRow BQ.out P4.out _⟩
 have d0 : ¬ (64 : Int) < kn := by omega
 have d1 : decide ((64 : Int) < kn) = false := decide_eq_false d0
 by_cases h2 : 2048 < bn
 ·have HBAD : Hid (readE key b = 3 ∧ readP key b = zPl) := Lib.hid (by
   have e : readE key b = 3 := by rw [readE, if_pos (.inr (by have := HN.out; omega))]
   exact ⟨e, read_not (by rw [e]; decide)⟩)
  have d2 : (2048 : Int) < bn := by omega
  have d3 : decide ((2048 : Int) < bn) = true := decide_eq_true d2
  clear h1 h2
  go_wp2_with ((with_reducible show wpList _ _ _ (⟨none, _, _, _, _, _⟩ :: _) _ _); refine wpList_store_rowS rfl _ (.tmp 4) (.tmp 19) rfl p4 rfl (c' := #[.int .i64 0, .int .i64 0, .slice none 0 0, .slice none 0 0, .slice none 0 0, .slice none 0 0]) rfl X4.out infoPlanA rfl (by simp [Value.oneCell']) ?_)
  refine bodyPost_ret (results_rowS_tmp (c := #[.int .i64 0, .int .i64 0, .slice none 0 0, .slice none 0 0, .slice none 0 0, .slice none 0 0]) rfl _ _ p4 rfl (setRow_heap _ _ _ _ _ _ X4.out) Tryz.underlying28 infoPlanA (.int .i64 3) rfl) rfl ?_
  rw [HBAD.out.1, HBAD.out.2]
  exact ⟨_, _, _, _, rfl, ⟨ListOwn.nil_, ListOwn.nil_, ListOwn.nil_, ListOwn.nil_⟩, below_setRow BQ.out P4.out _⟩
 have d2 : ¬ (2048 : Int) < bn := by omega
 have d3 : decide ((2048 : Int) < bn) = false := decide_eq_false d2
 by_cases h3 : bn < 32
 ·have HBAD : Hid (readE key b = 8 ∧ readP key b = zPl) := Lib.hid (by
   have e : readE key b = 8 := by rw [readE, if_neg (by have := HN.out; omega), if_pos (by have := HN.out; omega)]
   exact ⟨e, read_not (by rw [e]; decide)⟩)
  have d4 : (bn : Int) < 32 := by omega
  clear h1 h2 h3
  go_wp2_with ((with_reducible show wpList _ _ _ (⟨none, _, _, _, _, _⟩ :: _) _ _); refine wpList_store_rowS rfl _ (.tmp 4) (.tmp 24) rfl p4 rfl (c' := #[.int .i64 0, .int .i64 0, .slice none 0 0, .slice none 0 0, .slice none 0 0, .slice none 0 0]) rfl X4.out infoPlanA rfl (by simp [Value.oneCell']) ?_)
  refine bodyPost_ret (results_rowS_tmp (c := #[.int .i64 0, .int .i64 0, .slice none 0 0, .slice none 0 0, .slice none 0 0, .slice none 0 0]) rfl _ _ p4 rfl (setRow_heap _ _ _ _ _ _ X4.out) Tryz.underlying28 infoPlanA (.int .i64 8) rfl) rfl ?_
  rw [HBAD.out.1, HBAD.out.2]
  exact ⟨_, _, _, _, rfl, ⟨ListOwn.nil_, ListOwn.nil_, ListOwn.nil_, ListOwn.nil_⟩, below_setRow BQ.out P4.out _⟩
 have d4 : ¬ (bn : Int) < 32 := by omega
 obtain ⟨m, hm⟩ : ∃ m : Nat, m + 32 = bn := ⟨bn - 32, by omega⟩
 have HM : Hid (m + 32 = b.length ∧ m + 32 = bn ∧ m ≤ 2016) := Lib.hid (by have := HN.out; omega)
 have RT := Lib.hid (readE_tag (key := key) (b := b) (by have := HN.out; omega) (by have := HN.out; omega) (by have := HN.out; omega) m HM.out.1)
 have HK64 : Hid (key.length ≤ 64) := Lib.hid (by have := HN.out; omega)
 obtain ⟨bk, bo, rfl⟩ : ∃ k o, BA = some ⟨k, o, none⟩ := by
  obtain ⟨A', cap, e, _, _, _, h5⟩ := BB.out
  injection e with e1 _ _
  obtain ⟨b5, off, ha, _⟩ := h5 (by have := HM.out; omega)
  exact ⟨b5, off, e1.trans ha⟩
 have HSUB : Hid (Txt q q.heap.size (.slice (some ⟨bk, bo + m, none⟩) 32 (bc - m)) (b.drop m)) := Lib.hid (by
  have h6 : Txt q q.heap.size (.slice (some ⟨bk, bo, none⟩) b.length bc) b := by have := BB.out; rw [HN.out.2] at this; exact this
  obtain ⟨b7, o7, e7, -, h7⟩ := h6.sub (k := m) (L := 32) (by omega) (by have := HM.out; omega)
  cases e7
  rw [List.take_of_length_le (by rw [List.length_drop]; have := HM.out; omega)] at h7
  exact h7)
 have TX : Hid (Txt q q.heap.size (.slice (some ⟨bk, bo, none⟩) m bc) (b.take m)) := Lib.hid (BB.out.pre (by omega))
 have hwr : IntKind.i64.wrap ((bn : Int) - 32) = (m : Int) := by rw [wrap_id (by omega) (by omega)]; omega
 have hc1 : ¬ bc = m := by have := HBC.out; omega
 have hc2 : m ≤ bn := by omega
 have hc3 : m ≤ bc := by have := HBC.out; omega
 have hc4 : bn ≤ bc := HBC.out.1
 have hc5 : bn - m = 32 := by omega
 clear h1 h2 h3 hm
 go_upto_region 5 with fail
 refine wp_region_held_drew (S := fun v => Below q.heap.size q v) (by kernel_rfl) (Below.refl q.heap.size q).drew (fun hHeld => ?_)
 refine tk 0 hHeld ?_;refine tk 1 hHeld ?_;refine tk 2 hHeld ?_;refine tk 3 hHeld ?_;refine tk 4 hHeld ?_;refine tk 5 hHeld ?_;refine tk 6 hHeld ?_;refine tk 7 hHeld ?_;refine tk 8 hHeld ?_;refine tk 9 hHeld ?_;refine tk 10 hHeld ?_;refine tk 11 hHeld ?_
 refine wpAnyH_done (by kernel_rfl) ?_ _
 have DQ : Below q.heap.size q q.drew := (Below.refl q.heap.size q).drew
 have X4a := Lib.hid ((DQ.block _ (heap_lt X4.out)).trans X4.out)
 have BQa := Lib.hid (BQ.out.trans (DQ.mono BQ.out.size))
 have KQa := Lib.hid ((KQ.out.below DQ).more DQ.size)
 have TXa := Lib.hid ((TX.out.below DQ).more DQ.size)
 have HSa := Lib.hid ((HSUB.out.below DQ).more DQ.size)
 generalize q.drew = q0 at X4a BQa KQa TXa HSa ⊢
 clear X4 BQ KQ TX HSUB BB DQ hHeld hwr hc1 hc2 hc3 hc4 hc5 d0 d1 d2 d3 d4
 go_wp2_with fail
 refine (tag_any _ _ key (b.take m) HK64.out (by rw [List.length_take]; have := HM.out; omega) q0 (HT.out.below BQa.out T0.out) KQa.out TXa.out).mono ?_
 rintro e w2 ⟨rfl, b2⟩
 have X4 := Lib.hid ((b2.block _ (heap_lt X4a.out)).trans X4a.out)
 have BQ := Lib.hid (BQa.out.trans (b2.mono BQa.out.size))
 have TX := Lib.hid ((TXa.out.below b2).more b2.size)
 have HS := Lib.hid ((HSa.out.below b2).more b2.size)
 have TLN : Hid ((tagL key (b.take m)).length = 32) := Lib.hid (tagL_length _ _)
 clear b2 X4a BQa KQa TXa HSa
 go_upto_region 7 with ((with_reducible show wpList _ _ _ (⟨none, _, _, _, _, _⟩ :: _) _ _); refine wpList_store_new (op := ⟨none, _, _, _, _, _⟩) rfl _ _ rfl rfl rfl TLN.out ?_; intro q3 hx3 hb3; have X8 := hx3; have D3 := hb3; clear hx3 hb3)
 have X43 := Lib.hid ((D3.out.block _ (heap_lt X4.out)).trans X4.out)
 have B3 := Lib.hid (BQ.out.trans (D3.out.mono BQ.out.size))
 have TX3 := Lib.hid ((TX.out.below D3.out).more D3.out.size)
 have HS3 := Lib.hid ((HS.out.below D3.out).more D3.out.size)
 obtain ⟨p8, hp8⟩ : ∃ n, n = w2.heap.size := ⟨_, rfl⟩
 rw [← hp8] at X8 ⊢
 clear D3 X4 BQ TX HS hp8
 go_upto_region 9 with fail
 refine wp_region_still_tail 4 (by kernel_rfl) (by kernel_rfl) ?_
 change wpStill _ _ (World.drew q3) (fun a' => wpList _ _ _ _ a' (World.drew q3)) _ _
 have DQ : Below q3.heap.size q3 q3.drew := (Below.refl q3.heap.size q3).drew
 have X44 := Lib.hid ((DQ.block _ (heap_lt X43.out)).trans X43.out)
 have B4 := Lib.hid (B3.out.trans (DQ.mono B3.out.size))
 have TX4 := Lib.hid ((TX3.out.below DQ).more DQ.size)
 have HS4 := Lib.hid ((HS3.out.below DQ).more DQ.size)
 have X84 := Lib.hid ((DQ.block _ (heap_lt X8.out)).trans X8.out)
 generalize World.drew q3 = q4 at X44 B4 TX4 HS4 X84 ⊢
 clear DQ X43 B3 TX3 HS3 X8
 have hload := run_load_row X84.out Tryz.underlying47 (by rw [rowB_size, TLN.out]; exact zero32.2)
 have harr := run_arrayAt32
 simp only [List.take_succ_cons, List.take_zero, List.drop_succ_cons, List.drop_zero]
 refine wpStill_load_row rfl 47 _ rfl p8 rfl hload ?_
 simp only [Act.put, List.setIfInBounds_toArray, List.set_cons_zero, List.set_cons_succ]
 clear hload
 still_step
 still_step
 clear harr
 refine wpStill_load_mid rfl 47 _ rfl bk (bo + m) rfl (run_load_text32 HS4.out (by rw [List.length_drop]; have := HM.out; omega)) ?_
 simp only [Act.put, List.setIfInBounds_toArray, List.set_cons_zero, List.set_cons_succ]
 refine wpStill_nil ?_
 go_wp2_with fail
 refine (same_any (tagL key (b.take m)) (b.drop m) TLN.out (by rw [List.length_drop]; have := HM.out; omega) q4).mono ?_
 rintro e w5 ⟨rfl, b5⟩
 have X4 := Lib.hid ((b5.block _ (heap_lt X44.out)).trans X44.out)
 have B3 := Lib.hid (B4.out.trans (b5.mono B4.out.size))
 have TX := Lib.hid ((TX4.out.below b5).more b5.size)
 clear b5 X44 B4 TX4 HS4 X84
 by_cases hsm : tagL key (b.take m) = b.drop m
 rotate_left
 ·have HBAD : Hid (readE key b = 120 ∧ readP key b = zPl) := Lib.hid (RT.out.1 hsm)
  rw [decide_eq_false hsm]
  clear hsm
  go_wp2_with ((with_reducible show wpList _ _ _ (⟨none, _, _, _, _, _⟩ :: _) _ _); refine wpList_store_rowS rfl _ (.tmp 4) (.tmp 51) rfl p4 rfl (c' := #[.int .i64 0, .int .i64 0, .slice none 0 0, .slice none 0 0, .slice none 0 0, .slice none 0 0]) rfl X4.out infoPlanA rfl (by simp [Value.oneCell']) ?_)
  refine bodyPost_ret (results_rowS_tmp (c := #[.int .i64 0, .int .i64 0, .slice none 0 0, .slice none 0 0, .slice none 0 0, .slice none 0 0]) rfl _ _ p4 rfl (setRow_heap _ _ _ _ _ _ X4.out) Tryz.underlying28 infoPlanA (.int .i64 120) rfl) rfl ?_
  rw [HBAD.out.1, HBAD.out.2]
  exact ⟨_, _, _, _, rfl, ⟨ListOwn.nil_, ListOwn.nil_, ListOwn.nil_, ListOwn.nil_⟩, below_setRow B3.out P4.out _⟩
 have HOK := Lib.hid (RT.out.2 hsm)
 rw [decide_eq_true hsm]
 clear hsm RT
 go_wp2_with fail
 refine (hp.parse _ (b.take m) w5 TX.out (by rw [List.length_take]; have := HM.out; omega)).mono ?_
 rintro e w6 ⟨u2, u3, u4, u5, rfl, ho, b6⟩
 obtain ⟨U2, g2, rfl⟩ := ho.secs.slice
 obtain ⟨U3, g3, rfl⟩ := ho.pts.slice
 obtain ⟨U4, g4, rfl⟩ := ho.sigs.slice
 obtain ⟨U5, g5, rfl⟩ := ho.routes.slice
 have O6 := Lib.hid ho
 have X6 := Lib.hid ((b6.block _ (heap_lt X4.out)).trans X4.out)
 have B6 := Lib.hid (B3.out.trans (b6.mono B3.out.size))
 clear ho b6 X4
 generalize (parseP (b.take m)).secs.length = l2 at O6 ⊢
 generalize (parseP (b.take m)).pts.length = l3 at O6 ⊢
 generalize (parseP (b.take m)).sigs.length = l4 at O6 ⊢
 generalize (parseP (b.take m)).routes.length = l5 at O6 ⊢
 go_wp2_with ((with_reducible show wpList _ _ _ (⟨none, _, _, _, _, _⟩ :: _) _ _); refine wpList_store_rowS rfl _ (.tmp 4) (.tmp 54) rfl p4 rfl (c' := #[.int .i64 (parseP (b.take m)).ver, .int .i64 (parseP (b.take m)).par, .slice U2 l2 g2, .slice U3 l3 g3, .slice U4 l4 g4, .slice U5 l5 g5]) rfl X6.out infoPlanA rfl (by simp [Value.oneCell']) ?_)
 refine bodyPost_ret (results_rowS_tmp (c := #[.int .i64 (parseP (b.take m)).ver, .int .i64 (parseP (b.take m)).par, .slice U2 l2 g2, .slice U3 l3 g3, .slice U4 l4 g4, .slice U5 l5 g5]) rfl _ _ p4 rfl (setRow_heap _ _ _ _ _ _ X6.out) Tryz.underlying28 infoPlanA (.int .i64 (parseE (b.take m))) rfl) rfl ?_
 rw [HOK.out.1, HOK.out.2]
 exact ⟨_, _, _, _, rfl, (plOwn_fz O6.out (grownBy_setRow _ p4 _) ⟨_, X6.out⟩).mono_ B3.out.size, below_setRow B6.out P4.out _⟩
theorem pckKey (hp : PckSaid) : PckKey := ⟨fun v y key p w hT hk h => pwrite_any hp v y key p w hT hk h, fun v y key b w hT hk hb hl => pread_any hp v y key b w hT hk hb hl⟩
end Go.Proofs.YteloiajocjahmaaGreatDoor
