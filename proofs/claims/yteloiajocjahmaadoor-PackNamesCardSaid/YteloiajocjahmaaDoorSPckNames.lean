/-
 PackNames: the walk, given the program's contracts.
 Conditions: none.
-/
import Derived.Test.YteloiajocjahmaaDoorSGPckA
import Derived.Test.YteloiajocjahmaaDoorSGHmacN
import Derived.Test.YteloiajocjahmaaDoorSPckNamesA
set_option linter.unusedVariables false
set_option linter.unusedSimpArgs false
set_option maxRecDepth 100000
namespace Go.Proofs.YteloiajocjahmaaDoor
open Go.RowKit

theorem key_conv8 (w : World) : (convert 22 22 (.slice (some ⟨w.heap.size, 0, none⟩) 1 1)).run Tryd.prog (w.alloc (.cells #[.int .u8 108] 5)) = .ok (.slice (some ⟨w.heap.size, 0, none⟩) 1 1) (w.alloc (.cells #[.int .u8 108] 5 (1, 2))) := Lib.run_convert_bytes_const (P := Tryd.prog) w 22 5 #[.int .u8 108] 1 1 Tryd.underlying22 Tryd.underlying5
theorem key_new8 (w : World) : Txt (w.alloc (.cells #[.int .u8 108] 5 (1, 2))) (w.alloc (.cells #[.int .u8 108] 5 (1, 2))).heap.size (.slice (some ⟨w.heap.size, 0, none⟩) 1 1) [108] := txt_mark w 5 [108] (1, 2) (by decide)
theorem txt_own_far {W W' : World} {lo : Nat} {v v2 : Value} {X : List UInt8} (h : TxtOwn W lo v X) (hg : W.grownBy W' v2.ownBlock) (hk : ∀ k, v2.ownBlock = some k → k < lo) : TxtOwn W' lo v X := by
 refine ⟨h.1, h.2.imp id fun ⟨g, cap, cur, e, h1, h2, h3⟩ => ⟨g, cap, cur, e, h1, (hg.block _ (heap_lt h2) fun e => ?_).trans h2, h3⟩⟩
 have := hk g e.symm
 omega
theorem txt_own_lt {W : World} {lo : Nat} {v : Value} {X : List UInt8} (h : TxtOwn W lo v X) : ∀ k, v.ownBlock = some k → k < W.heap.size := by
 intro k e
 rcases h.2 with ⟨rfl, -⟩ | ⟨g, cap, cur, rfl, _, hb, _⟩
 ·cases e
 ·cases e
  exact heap_lt hb
theorem wpList_append_grown {w : World} {ops : Array Oper} {rest : List Oper} {o : Oper} {a : Act} {Q : Exit → Act → World → Prop} (hgd : o.guard = none) (s x : Operand)
  (ho : o.op = .call { callee := .builtin .append, args := #[s, x], argTypes := #[22, 22] })
  {lo B : Nat} {v u : Value} {X Y : List UInt8} (hs : a.eval s = v) (hO : TxtOwn w lo v X) (hu : a.eval x = u) (hx : Txt w B u Y) (hle : X.length + Y.length ≤ 1000000) (hlo : lo ≤ w.heap.size)
  (h : ∀ v' w', TxtOwn w' lo v' (X ++ Y) → w.grownBy w' v.ownBlock → Below lo w w' → wpList Tryd.prog ops Q rest (a.put o.dst v') w') : wpList Tryd.prog ops Q (o :: rest) a w := by
 obtain ⟨i0, hi, hz0, hz1, hz2⟩ := info_parts infoByte
 refine wpList_append_txt hgd s x 22 ho Tryd.underlying22 hi hz0 hz1 hz2 hs hO hu hx (by omega) hlo fun v' w' h2 h3 => h v' w' ?_ h3 ((Below.refl lo w).grown h3 hlo (own_ge hO))
 show w'.ownsRow _ _ _ _ _ _
 rw [List.length_append, List.map_append]
 exact h2
theorem read_few {b : List UInt8} (hb : b.length = 31) : readE [107] b = 8 := by
 rw [readE, if_neg (by simp; omega), if_pos (by omega)]
theorem read_key {k b : List UInt8} (h : k.length = 65) : readE k b = 3 := by
 rw [readE, if_pos (.inl (by omega))]
theorem read_much {b : List UInt8} (h : b.length = 2049) : readE [107] b = 3 := by
 rw [readE, if_pos (.inr (by omega))]
theorem noughts_of (m : Nat) (hm : m ≤ 10000) : ∃ Z : List UInt8, Z.length = m ∧ ∀ w' : World, (Instr.makeSlice 22 (.int .i64 (m : Int)) (.int .i64 (m : Int))).run Tryd.prog w' = .ok (.slice (some ⟨w'.heap.size, 0, none⟩) m m) (w'.alloc (.cells (rowB Z) 5)) := ⟨_, List.length_replicate, make_noughts m hm⟩
theorem parse_nought : parseE (textL planOne ++ [0]) = 8 := (parse_no fun q hq e => by have := (text_more may_one hq e.symm).2; cases this).1
set_option maxHeartbeats 16000000 in
theorem walk_pack_names (hp : PckSaid) (hk : PckKey) (w : World) (hT : Tab w) : Calls Tryd.prog 3 #[] w fun e w' => e = .returned (.bool true) ∧ Below w.heap.size w w' := by
 have HT := Lib.hid hT
 have T0 : Hid (0 < w.heap.size) := Lib.hid (tab_pos hT)
 clear hT
 have TE : Hid (textE planOne = 0 ∧ textV planOne = textL planOne) := Lib.hid (by
  rcases text_cases planOne with ⟨_, h1, h2⟩ | ⟨h1, _⟩
  ·exact ⟨h1, h2⟩
  ·exact absurd may_one h1)
 have WE : Hid (writeE [107] planOne = 0 ∧ writeV [107] planOne = packL [107] planOne) := Lib.hid (by
  have e : writeE [107] planOne = 0 := by rw [writeE, if_neg (by decide), TE.out.1]
  exact ⟨e, by rw [writeV, if_pos e]⟩)
 have LT : Hid ((textL planOne).length = 40) := Lib.hid (by rw [text_one]; rfl)
 have LP : Hid ((packL [107] planOne).length = 72) := Lib.hid (by rw [(packL_len [107] may_one).1, LT.out])
 go_enter Tryd.func3, Tryd.ntmps3
 go_wp2_with fail
 refine (one12_any w).mono ?_
 rintro e w1 ⟨v1, rfl, hv1, b1⟩
 have BZ := Lib.hid b1
 have HLO : Hid (w.heap.size ≤ w1.heap.size) := Lib.hid b1.size
 have V1 := Lib.hid hv1
 clear b1 hv1
 go_wp2_with fail
 refine (hp.text v1 planOne w1 V1.out).mono ?_
 rintro e w2 ⟨u2, rfl, hu2, bN⟩
 rw [TE.out.2] at hu2
 rw [TE.out.1]
 have OB := Lib.hid hu2
 have HLT : Hid (∀ k, u2.ownBlock = some k → k < w2.heap.size) := Lib.hid (txt_own_lt hu2)
 have H12 : Hid (w1.heap.size ≤ w2.heap.size) := Lib.hid bN.size
 clear hu2 V1
 have HS : Hid (w1.heap.size ≤ w2.heap.size) := Lib.hid bN.size
 have tBZ := BZ.out.trans (bN.mono BZ.out.size)
 clear BZ 
 have BZ := Lib.hid tBZ
 clear tBZ  bN
 have kc := key_conv w2
 have HK := Lib.hid (key_new w2)
 have hbk := below_new w2 (.cells #[.int .u8 107] 5 (1, 2))
 have tBZ := BZ.out.trans (hbk.mono BZ.out.size)
 have tOB := OB.out.below hbk
 clear BZ OB
 have BZ := Lib.hid tBZ
 have OB := Lib.hid tOB
 clear tBZ tOB hbk
 go_wp2_with fail
 refine (one12_any _).mono ?_
 rintro e w3 ⟨v3, rfl, hv3, bN⟩
 have V3 := Lib.hid hv3
 have H23 : Hid (w2.heap.size ≤ w3.heap.size) := Lib.hid (Nat.le_trans (by simp) bN.size)
 clear hv3
 have tBZ := BZ.out.trans (bN.mono BZ.out.size)
 have tOB := OB.out.below bN
 have tHK := ((HK.out.below bN).more bN.size)
 clear BZ OB HK
 have BZ := Lib.hid tBZ
 have OB := Lib.hid tOB
 have HK := Lib.hid tHK
 clear tBZ tOB tHK bN
 go_wp2_with fail
 refine (hk.write _ _ [107] planOne w3 (HT.out.below BZ.out T0.out) HK.out V3.out).mono ?_
 rintro e w4 ⟨u4, rfl, hu4, bN⟩
 rw [WE.out.2] at hu4
 rw [WE.out.1]
 obtain ⟨g4, c4, rfl, hc4⟩ : ∃ g c, u4 = .slice (some ⟨g, 0, none⟩) 72 c ∧ 72 ≤ c ∧ c ≤ maxLen := by
  rcases hu4.2 with ⟨_, h0⟩ | ⟨g, cap, cur, e, _, _, h1, h2, _⟩
  ·rw [LP.out] at h0; cases h0
  ·rw [LP.out] at e h1
   exact ⟨g, cap, e, h1, h2⟩
 have HC := Lib.hid hc4
 have PO := Lib.hid hu4
 clear hu4 hc4 V3 kc
 clear HK
 have tBZ := BZ.out.trans (bN.mono BZ.out.size)
 have tOB := OB.out.below bN
 clear BZ OB
 have BZ := Lib.hid tBZ
 have OB := Lib.hid tOB
 clear tBZ tOB bN
 go_upto_region 5 with fail
 have kc := key_conv8 w4
 have HK := Lib.hid (key_new8 w4)
 have hbk := below_new w4 (.cells #[.int .u8 108] 5 (1, 2))
 have tBZ := BZ.out.trans (hbk.mono BZ.out.size)
 have tOB := OB.out.below hbk
 have tPO := PO.out.below hbk
 clear BZ OB PO
 have BZ := Lib.hid tBZ
 have OB := Lib.hid tOB
 have PO := Lib.hid tPO
 clear tBZ tOB tPO hbk
 go_wp2_with fail
 refine (hk.read _ _ [108] (packL [107] planOne) _ (HT.out.below BZ.out T0.out) HK.out (PO.out.txt (by rw [LP.out]; decide)) (by rw [LP.out]; decide)).mono ?_
 rintro e w5a ⟨y2, y3, y4, y5, rfl, hpo, bN⟩
 rw [read_other]
 obtain ⟨rL, hr⟩ : ∃ r, r = readP [108] (packL [107] planOne) := ⟨_, rfl⟩
 rw [← hr] at hpo ⊢
 clear hr
 obtain ⟨L2, Lc2, rfl⟩ := hpo.secs.slice
 obtain ⟨L3, Lc3, rfl⟩ := hpo.pts.slice
 obtain ⟨L4, Lc4, rfl⟩ := hpo.sigs.slice
 obtain ⟨L5, Lc5, rfl⟩ := hpo.routes.slice
 clear hpo
 have tBZ := BZ.out.trans (bN.mono BZ.out.size)
 have tOB := OB.out.below bN
 have tPO := PO.out.below bN
 clear BZ OB PO
 have BZ := Lib.hid tBZ
 have OB := Lib.hid tOB
 have PO := Lib.hid tPO
 clear tBZ tOB tPO bN
 have XX0 := heap_alloc_self w5a (.cells #[.int .i64 0, .int .i64 0, .slice none 0 0, .slice none 0 0, .slice none 0 0, .slice none 0 0] 31)
 have hb6 := below_setRow (below_new w5a (.cells #[.int .i64 0, .int .i64 0, .slice none 0 0, .slice none 0 0, .slice none 0 0, .slice none 0 0] 31)) (Nat.le_refl _) #[.int .i64 rL.ver, .int .i64 rL.par, .slice L2 rL.secs.length Lc2, .slice L3 rL.pts.length Lc3, .slice L4 rL.sigs.length Lc4, .slice L5 rL.routes.length Lc5]
 go_upto_region 6 with ((with_reducible show wpList _ _ _ (⟨none, _, _, _, _, _⟩ :: _) _ _); refine wpList_store_rowS rfl _ (.tmp 5) (.tmp 35) rfl w5a.heap.size rfl (c' := #[.int .i64 rL.ver, .int .i64 rL.par, .slice L2 rL.secs.length Lc2, .slice L3 rL.pts.length Lc3, .slice L4 rL.sigs.length Lc4, .slice L5 rL.routes.length Lc5]) rfl XX0 infoPlanA rfl (by simp [Value.oneCell']) ?_)
 generalize (w5a.alloc (.cells #[.int .i64 0, .int .i64 0, .slice none 0 0, .slice none 0 0, .slice none 0 0, .slice none 0 0] 31)).setRow w5a.heap.size #[.int .i64 rL.ver, .int .i64 rL.par, .slice L2 rL.secs.length Lc2, .slice L3 rL.pts.length Lc3, .slice L4 rL.sigs.length Lc4, .slice L5 rL.routes.length Lc5] = w5 at hb6 ⊢
 clear XX0
 have tBZ := BZ.out.trans (hb6.mono BZ.out.size)
 have tOB := OB.out.below hb6
 have tPO := PO.out.below hb6
 clear BZ OB PO
 have BZ := Lib.hid tBZ
 have OB := Lib.hid tOB
 have PO := Lib.hid tPO
 clear tBZ tOB tPO hb6
 clear HK kc
 have L31 : Hid (((packL [107] planOne).take 31).length = 31) := Lib.hid (by rw [List.length_take, LP.out]; rfl)
 have hcap : (31 : Int) ≤ c4 := by have := HC.out; omega
 have kc := key_conv w5
 have HK := Lib.hid (key_new w5)
 have hbk := below_new w5 (.cells #[.int .u8 107] 5 (1, 2))
 have tBZ := BZ.out.trans (hbk.mono BZ.out.size)
 have tOB := OB.out.below hbk
 have tPO := PO.out.below hbk
 clear BZ OB PO
 have BZ := Lib.hid tBZ
 have OB := Lib.hid tOB
 have PO := Lib.hid tPO
 clear tBZ tOB tPO hbk
 go_wp2_with fail
 refine (hk.read _ _ [107] ((packL [107] planOne).take 31) _ (HT.out.below BZ.out T0.out) HK.out ((PO.out.txt (by rw [LP.out]; decide)).pre (m := 31) (by decide)) (by rw [L31.out]; decide)).mono ?_
 rintro e w6a ⟨y2, y3, y4, y5, rfl, hpo, bN⟩
 rw [read_few L31.out]
 obtain ⟨rM, hr⟩ : ∃ r, r = readP [107] ((packL [107] planOne).take 31) := ⟨_, rfl⟩
 rw [← hr] at hpo ⊢
 clear hr
 obtain ⟨M2, Mc2, rfl⟩ := hpo.secs.slice
 obtain ⟨M3, Mc3, rfl⟩ := hpo.pts.slice
 obtain ⟨M4, Mc4, rfl⟩ := hpo.sigs.slice
 obtain ⟨M5, Mc5, rfl⟩ := hpo.routes.slice
 clear hpo
 have tBZ := BZ.out.trans (bN.mono BZ.out.size)
 have tOB := OB.out.below bN
 have tPO := PO.out.below bN
 clear BZ OB PO
 have BZ := Lib.hid tBZ
 have OB := Lib.hid tOB
 have PO := Lib.hid tPO
 clear tBZ tOB tPO bN
 have XX0 := heap_alloc_self w6a (.cells #[.int .i64 0, .int .i64 0, .slice none 0 0, .slice none 0 0, .slice none 0 0, .slice none 0 0] 31)
 have hb6 := below_setRow (below_new w6a (.cells #[.int .i64 0, .int .i64 0, .slice none 0 0, .slice none 0 0, .slice none 0 0, .slice none 0 0] 31)) (Nat.le_refl _) #[.int .i64 rM.ver, .int .i64 rM.par, .slice M2 rM.secs.length Mc2, .slice M3 rM.pts.length Mc3, .slice M4 rM.sigs.length Mc4, .slice M5 rM.routes.length Mc5]
 go_upto_region 7 with ((with_reducible show wpList _ _ _ (⟨none, _, _, _, _, _⟩ :: _) _ _); refine wpList_store_rowS rfl _ (.tmp 7) (.tmp 43) rfl w6a.heap.size rfl (c' := #[.int .i64 rM.ver, .int .i64 rM.par, .slice M2 rM.secs.length Mc2, .slice M3 rM.pts.length Mc3, .slice M4 rM.sigs.length Mc4, .slice M5 rM.routes.length Mc5]) rfl XX0 infoPlanA rfl (by simp [Value.oneCell']) ?_)
 generalize (w6a.alloc (.cells #[.int .i64 0, .int .i64 0, .slice none 0 0, .slice none 0 0, .slice none 0 0, .slice none 0 0] 31)).setRow w6a.heap.size #[.int .i64 rM.ver, .int .i64 rM.par, .slice M2 rM.secs.length Mc2, .slice M3 rM.pts.length Mc3, .slice M4 rM.sigs.length Mc4, .slice M5 rM.routes.length Mc5] = w6 at hb6 ⊢
 clear XX0
 have tBZ := BZ.out.trans (hb6.mono BZ.out.size)
 have tOB := OB.out.below hb6
 have tPO := PO.out.below hb6
 clear BZ OB PO
 have BZ := Lib.hid tBZ
 have OB := Lib.hid tOB
 have PO := Lib.hid tPO
 clear tBZ tOB tPO hb6
 clear HK kc L31 hcap
 have HLT6 : Hid (w3.heap.size ≤ w6.heap.size) := Lib.hid (by
  rcases PO.out.2 with ⟨h, _⟩ | ⟨g, cap, cur, _, h1, h2, _⟩
  ·cases h
  ·exact Nat.le_trans h1 (Nat.le_of_lt (heap_lt h2)))
 have hbk := below_new w6 (.cells #[.int .u8 0] 5)
 have HN := Lib.hid (txt_mark w6 5 [0] (0, 0) (by decide))
 have tBZ := BZ.out.trans (hbk.mono BZ.out.size)
 have tOB := OB.out.below hbk
 have tPO := PO.out.below hbk
 clear BZ OB PO
 have BZ := Lib.hid tBZ
 have OB := Lib.hid tOB
 have PO := Lib.hid tPO
 clear tBZ tOB tPO hbk
 have HSZ : Hid (w1.heap.size ≤ w6.heap.size) := Lib.hid (by have h1 := HLT6.out; have h2 := H12.out; have h3 := H23.out; omega)
 go_wp2_with ((with_reducible show wpList _ _ _ (⟨some 48, _, _, _, _, _⟩ :: _) _ _); refine wpList_append_grown rfl (.tmp 46) (.tmp 47) rfl rfl OB.out rfl HN.out (by rw [LT.out]; decide) (by simp; have := HSZ.out; omega) ?_; intro z7 x7 ho7 hg7 hb7; have O7 := Lib.hid ho7; have G7 := Lib.hid hg7; have D7 := Lib.hid hb7; clear ho7 hg7 hb7)
 have hb7 := D7.out
 replace PO := Lib.hid (txt_own_far PO.out G7.out (fun k hk => Nat.lt_of_lt_of_le (HLT.out k hk) H23.out))
 replace BZ := Lib.hid (BZ.out.trans (hb7.mono HLO.out))
 clear OB G7 D7 HN hb7
 refine (hp.parse _ (textL planOne ++ [0]) x7 (O7.out.txt (by rw [List.length_append, LT.out]; decide)) (by rw [List.length_append, LT.out]; decide)).mono ?_
 rintro e w7a ⟨y2, y3, y4, y5, rfl, hpo, bN⟩
 rw [parse_nought]
 obtain ⟨rN, hr⟩ : ∃ r, r = parseP (textL planOne ++ [0]) := ⟨_, rfl⟩
 rw [← hr] at hpo ⊢
 clear hr O7
 obtain ⟨N2, Nc2, rfl⟩ := hpo.secs.slice
 obtain ⟨N3, Nc3, rfl⟩ := hpo.pts.slice
 obtain ⟨N4, Nc4, rfl⟩ := hpo.sigs.slice
 obtain ⟨N5, Nc5, rfl⟩ := hpo.routes.slice
 clear hpo
 have tBZ := BZ.out.trans (bN.mono BZ.out.size)
 have tPO := PO.out.below bN
 clear BZ PO
 have BZ := Lib.hid tBZ
 have PO := Lib.hid tPO
 clear tBZ tPO bN
 have XX0 := heap_alloc_self w7a (.cells #[.int .i64 0, .int .i64 0, .slice none 0 0, .slice none 0 0, .slice none 0 0, .slice none 0 0] 31)
 have hb6 := below_setRow (below_new w7a (.cells #[.int .i64 0, .int .i64 0, .slice none 0 0, .slice none 0 0, .slice none 0 0, .slice none 0 0] 31)) (Nat.le_refl _) #[.int .i64 rN.ver, .int .i64 rN.par, .slice N2 rN.secs.length Nc2, .slice N3 rN.pts.length Nc3, .slice N4 rN.sigs.length Nc4, .slice N5 rN.routes.length Nc5]
 go_upto_region 8 with ((with_reducible show wpList _ _ _ (⟨none, _, _, _, _, _⟩ :: _) _ _); refine wpList_store_rowS rfl _ (.tmp 9) (.tmp 50) rfl w7a.heap.size rfl (c' := #[.int .i64 rN.ver, .int .i64 rN.par, .slice N2 rN.secs.length Nc2, .slice N3 rN.pts.length Nc3, .slice N4 rN.sigs.length Nc4, .slice N5 rN.routes.length Nc5]) rfl XX0 infoPlanA rfl (by simp [Value.oneCell']) ?_)
 generalize (w7a.alloc (.cells #[.int .i64 0, .int .i64 0, .slice none 0 0, .slice none 0 0, .slice none 0 0, .slice none 0 0] 31)).setRow w7a.heap.size #[.int .i64 rN.ver, .int .i64 rN.par, .slice N2 rN.secs.length Nc2, .slice N3 rN.pts.length Nc3, .slice N4 rN.sigs.length Nc4, .slice N5 rN.routes.length Nc5] = w7 at hb6 ⊢
 clear XX0
 have tBZ := BZ.out.trans (hb6.mono BZ.out.size)
 have tPO := PO.out.below hb6
 clear BZ PO
 have BZ := Lib.hid tBZ
 have PO := Lib.hid tPO
 clear tBZ tPO hb6
 obtain ⟨z65, hz65, hmk0⟩ := noughts_of 65 (by omega)
 have hmk : ∀ w' : World, (Instr.makeSlice 22 (.int .i64 65) (.int .i64 65)).run Tryd.prog w' = .ok (.slice (some ⟨w'.heap.size, 0, none⟩) 65 65) (w'.alloc (.cells (rowB z65) 5)) := hmk0
 have Z65 := Lib.hid hz65
 clear hmk0 hz65
 have hbk := below_new w7 (.cells (rowB z65) 5)
 have HZ : Hid (Txt (w7.alloc (.cells (rowB z65) 5)) (w7.alloc (.cells (rowB z65) 5)).heap.size (.slice (some ⟨w7.heap.size, 0, none⟩) 65 65) z65) := Lib.hid (by
  have h := txt_of_block (heap_alloc_self w7 (.cells (rowB z65) 5)) (by rw [Z65.out]; unfold maxLen; omega)
  rw [Z65.out] at h
  exact h)
 have tBZ := BZ.out.trans (hbk.mono BZ.out.size)
 have tPO := PO.out.below hbk
 clear BZ PO
 have BZ := Lib.hid tBZ
 have PO := Lib.hid tPO
 clear tBZ tPO hbk
 go_wp2_with fail
 refine (hk.read _ _ z65 (packL [107] planOne) _ (HT.out.below BZ.out T0.out) HZ.out (PO.out.txt (by rw [LP.out]; decide)) (by rw [LP.out]; decide)).mono ?_
 rintro e w8a ⟨y2, y3, y4, y5, rfl, hpo, bN⟩
 rw [read_key Z65.out]
 obtain ⟨rQ, hr⟩ : ∃ r, r = readP z65 (packL [107] planOne) := ⟨_, rfl⟩
 rw [← hr] at hpo ⊢
 clear hr
 obtain ⟨Q2, Qc2, rfl⟩ := hpo.secs.slice
 obtain ⟨Q3, Qc3, rfl⟩ := hpo.pts.slice
 obtain ⟨Q4, Qc4, rfl⟩ := hpo.sigs.slice
 obtain ⟨Q5, Qc5, rfl⟩ := hpo.routes.slice
 clear hpo
 have tBZ := BZ.out.trans (bN.mono BZ.out.size)
 have tPO := PO.out.below bN
 clear BZ PO
 have BZ := Lib.hid tBZ
 have PO := Lib.hid tPO
 clear tBZ tPO bN
 have XX0 := heap_alloc_self w8a (.cells #[.int .i64 0, .int .i64 0, .slice none 0 0, .slice none 0 0, .slice none 0 0, .slice none 0 0] 31)
 have hb6 := below_setRow (below_new w8a (.cells #[.int .i64 0, .int .i64 0, .slice none 0 0, .slice none 0 0, .slice none 0 0, .slice none 0 0] 31)) (Nat.le_refl _) #[.int .i64 rQ.ver, .int .i64 rQ.par, .slice Q2 rQ.secs.length Qc2, .slice Q3 rQ.pts.length Qc3, .slice Q4 rQ.sigs.length Qc4, .slice Q5 rQ.routes.length Qc5]
 go_upto_region 9 with ((with_reducible show wpList _ _ _ (⟨none, _, _, _, _, _⟩ :: _) _ _); refine wpList_store_rowS rfl _ (.tmp 11) (.tmp 56) rfl w8a.heap.size rfl (c' := #[.int .i64 rQ.ver, .int .i64 rQ.par, .slice Q2 rQ.secs.length Qc2, .slice Q3 rQ.pts.length Qc3, .slice Q4 rQ.sigs.length Qc4, .slice Q5 rQ.routes.length Qc5]) rfl XX0 infoPlanA rfl (by simp [Value.oneCell']) ?_)
 generalize (w8a.alloc (.cells #[.int .i64 0, .int .i64 0, .slice none 0 0, .slice none 0 0, .slice none 0 0, .slice none 0 0] 31)).setRow w8a.heap.size #[.int .i64 rQ.ver, .int .i64 rQ.par, .slice Q2 rQ.secs.length Qc2, .slice Q3 rQ.pts.length Qc3, .slice Q4 rQ.sigs.length Qc4, .slice Q5 rQ.routes.length Qc5] = w8 at hb6 ⊢
 clear XX0
 have tBZ := BZ.out.trans (hb6.mono BZ.out.size)
 have tPO := PO.out.below hb6
 clear BZ PO
 have BZ := Lib.hid tBZ
 have PO := Lib.hid tPO
 clear tBZ tPO hb6
 clear HZ hmk
 clear PO
 have kc := key_conv w8
 have HK := Lib.hid (key_new w8)
 have hbk := below_new w8 (.cells #[.int .u8 107] 5 (1, 2))
 have tBZ := BZ.out.trans (hbk.mono BZ.out.size)
 clear BZ 
 have BZ := Lib.hid tBZ
 clear tBZ  hbk
 obtain ⟨z2049, hz65, hmk0⟩ := noughts_of 2049 (by omega)
 have hmk : ∀ w' : World, (Instr.makeSlice 22 (.int .i64 2049) (.int .i64 2049)).run Tryd.prog w' = .ok (.slice (some ⟨w'.heap.size, 0, none⟩) 2049 2049) (w'.alloc (.cells (rowB z2049) 5)) := hmk0
 have Z2049 := Lib.hid hz65
 clear hmk0 hz65
 have hbk := below_new (w8.alloc (.cells #[.int .u8 107] 5 (1, 2))) (.cells (rowB z2049) 5)
 have HZ : Hid (Txt ((w8.alloc (.cells #[.int .u8 107] 5 (1, 2))).alloc (.cells (rowB z2049) 5)) ((w8.alloc (.cells #[.int .u8 107] 5 (1, 2))).alloc (.cells (rowB z2049) 5)).heap.size (.slice (some ⟨w8.heap.size + 1, 0, none⟩) 2049 2049) z2049) := Lib.hid (by
  have h := txt_of_block (heap_alloc_self (w8.alloc (.cells #[.int .u8 107] 5 (1, 2))) (.cells (rowB z2049) 5)) (by rw [Z2049.out]; unfold maxLen; omega)
  rw [Z2049.out] at h
  rw [show (w8.alloc (.cells #[.int .u8 107] 5 (1, 2))).heap.size = w8.heap.size + 1 from by simp] at h
  exact h)
 have tBZ := BZ.out.trans (hbk.mono BZ.out.size)
 have tHK := ((HK.out.below hbk).more hbk.size)
 clear BZ HK
 have BZ := Lib.hid tBZ
 have HK := Lib.hid tHK
 clear tBZ tHK hbk
 go_wp2_with fail
 refine (hk.read _ _ [107] (z2049) _ (HT.out.below BZ.out T0.out) HK.out HZ.out (by rw [Z2049.out]; decide)).mono ?_
 rintro e w9a ⟨y2, y3, y4, y5, rfl, hpo, bN⟩
 rw [read_much Z2049.out]
 obtain ⟨rR, hr⟩ : ∃ r, r = readP [107] (z2049) := ⟨_, rfl⟩
 rw [← hr] at hpo ⊢
 clear hr HZ
 obtain ⟨R2, Rc2, rfl⟩ := hpo.secs.slice
 obtain ⟨R3, Rc3, rfl⟩ := hpo.pts.slice
 obtain ⟨R4, Rc4, rfl⟩ := hpo.sigs.slice
 obtain ⟨R5, Rc5, rfl⟩ := hpo.routes.slice
 clear hpo
 have tBZ := BZ.out.trans (bN.mono BZ.out.size)
 have tHK := ((HK.out.below bN).more bN.size)
 clear BZ HK
 have BZ := Lib.hid tBZ
 have HK := Lib.hid tHK
 clear tBZ tHK bN
 have XX0 := heap_alloc_self w9a (.cells #[.int .i64 0, .int .i64 0, .slice none 0 0, .slice none 0 0, .slice none 0 0, .slice none 0 0] 31)
 have hb6 := below_setRow (below_new w9a (.cells #[.int .i64 0, .int .i64 0, .slice none 0 0, .slice none 0 0, .slice none 0 0, .slice none 0 0] 31)) (Nat.le_refl _) #[.int .i64 rR.ver, .int .i64 rR.par, .slice R2 rR.secs.length Rc2, .slice R3 rR.pts.length Rc3, .slice R4 rR.sigs.length Rc4, .slice R5 rR.routes.length Rc5]
 go_upto_region 10 with ((with_reducible show wpList _ _ _ (⟨none, _, _, _, _, _⟩ :: _) _ _); refine wpList_store_rowS rfl _ (.tmp 13) (.tmp 63) rfl w9a.heap.size rfl (c' := #[.int .i64 rR.ver, .int .i64 rR.par, .slice R2 rR.secs.length Rc2, .slice R3 rR.pts.length Rc3, .slice R4 rR.sigs.length Rc4, .slice R5 rR.routes.length Rc5]) rfl XX0 infoPlanA rfl (by simp [Value.oneCell']) ?_)
 generalize (w9a.alloc (.cells #[.int .i64 0, .int .i64 0, .slice none 0 0, .slice none 0 0, .slice none 0 0, .slice none 0 0] 31)).setRow w9a.heap.size #[.int .i64 rR.ver, .int .i64 rR.par, .slice R2 rR.secs.length Rc2, .slice R3 rR.pts.length Rc3, .slice R4 rR.sigs.length Rc4, .slice R5 rR.routes.length Rc5] = w9 at hb6 ⊢
 clear XX0
 have tBZ := BZ.out.trans (hb6.mono BZ.out.size)
 have tHK := ((HK.out.below hb6).more hb6.size)
 clear BZ HK
 have BZ := Lib.hid tBZ
 have HK := Lib.hid tHK
 clear tBZ tHK hb6
 clear HK kc hmk
 go_wp2_with fail
 refine (alive12 hp hk w9 (HT.out.below BZ.out T0.out)).mono ?_
 rintro e w10 ⟨rfl, bN⟩
 have BL := Lib.hid (BZ.out.trans (bN.mono BZ.out.size))
 clear bN
 go_wp2_with fail
 go_ret
 exact ⟨rfl, BL.out⟩
end Go.Proofs.YteloiajocjahmaaDoor
