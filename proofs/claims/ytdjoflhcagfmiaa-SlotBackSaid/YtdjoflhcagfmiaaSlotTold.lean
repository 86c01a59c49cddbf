/-
  What a slot's sectors tell, as the program reads it.
  Conditions: sixteen sectors of 128 bytes each.
-/
import Derived.Test.YtdjoflhcagfmiaaSlotNum
import Derived.Test.YtdjoflhcagfmiaaDevSync
import Derived.Deep.RegionHeld3
set_option linter.unusedVariables false
set_option linter.unusedSimpArgs false
set_option maxRecDepth 100000
namespace Go.Proofs.Ytdjoflhcagfmiaa
open Go.RowKit

/-- A text in memory of the call's own, not shared below lo; it may be written. -/
def OwnTxt (W : World) (lo : Nat) (u : Value) (t : Bs) : Prop :=
  ∃ (b off cap : Nat) (cs : Array Value), u = .slice (some ⟨b, off, none⟩) t.length cap ∧ lo ≤ b ∧ W.heap[b]? = some (.cells cs 5 (0, 0)) ∧ t.length ≤ cap ∧ cap ≤ maxLen ∧ ∀ j (h : j < t.length), cs[off + j]? = some (u8 t[j])
theorem OwnTxt.txt {W : World} {lo : Nat} {u : Value} {t : Bs} (h : OwnTxt W lo u t) : Txt W W.heap.size u t := by
  obtain ⟨b, off, cap, cs, rfl, hb, hh, h1, h2, h3⟩ := h
  refine ⟨_, cap, rfl, h1, h2, fun e => (by cases e), fun _ => ⟨b, off, rfl, (Array.getElem?_eq_some_iff.1 hh).1, fun j hj => ?_⟩⟩
  rw [cell_of_row _ _ _ _ _ _ hh]
  exact h3 j hj
theorem OwnTxt.below {W W' : World} {lo : Nat} {u : Value} {t : Bs} (h : OwnTxt W lo u t) (hb : Below W.heap.size W W') : OwnTxt W' lo u t := by
  obtain ⟨b, off, cap, cs, rfl, h0, hh, h1, h2, h3⟩ := h
  exact ⟨b, off, cap, cs, rfl, h0, (hb.block _ (Array.getElem?_eq_some_iff.1 hh).1).trans hh, h1, h2, h3⟩
theorem OwnTxt.mono {W : World} {lo lo' : Nat} {u : Value} {t : Bs} (h : OwnTxt W lo u t) (hl : lo' ≤ lo) : OwnTxt W lo' u t := by
  obtain ⟨b, off, cap, cs, rfl, h0, h⟩ := h
  exact ⟨b, off, cap, cs, rfl, Nat.le_trans hl h0, h⟩
/-- What is told of a slot: a record, or none. -/
def ToldSaid (W : World) (lo : Nat) (r : Option (Nat × Bs)) (e : Ending) : Prop :=
  match r with
  | none => e = .returned (.tuple #[.agg #[.int .u32 0, .slice none 0 0], .bool false])
  | some (g, t) => ∃ u, e = .returned (.tuple #[.agg #[.int .u32 g, u], .bool true]) ∧ OwnTxt W lo u t

theorem bodyS_snoc {S : List Bs} {i : Nat} {s : Bs} (h : S[i]? = some s) : bodyS (S.take (i + 1)) = bodyS (S.take i) ++ (s.drop 6).take 118 := by
  rw [List.take_add_one, h, Option.toList_some, bodyS_append]
  simp [bodyS, midB]
theorem infoRec : (Try.prog.info? 36).map (fun i => (i.zero, i.size, i.bytes)) = some (some (.agg #[.int .u32 0, .slice none 0 0]), 2, 32) := by kernel_rfl
theorem infoRec2 : (Try.prog.info? 36).map (·.size) = some 2 := by kernel_rfl

set_option maxHeartbeats 4000000 in
theorem stold_any (v : Value) (S : List Bs) (w : World) (h : SecsIn w w.heap.size v S) (hl : S.length = 16) (h128 : ∀ s ∈ S, s.length = 128) :
    Calls Try.prog 54 #[v] w fun e w' => ToldSaid w' w.heap.size (toldR S) e ∧ Below w.heap.size w w' := by
  have H := Lib.hid h
  obtain ⟨A, cap, rfl, -, -, -, -⟩ := h
  have HL := Lib.hid hl
  rw [hl] at H ⊢
  obtain ⟨i0, hi, hz0, hz1, hz2⟩ := info_parts infoByte
  have I0 := Lib.hid hi
  have I1 := Lib.hid hz0
  have I2 := Lib.hid hz1
  have I3 := Lib.hid hz2
  have H128 := Lib.hid h128
  clear hi hz0 hz1 hz2 hl h128
  go_enter Try.func54, Try.ntmps54
  go_wp2_with fail
  have hq1 := heap_alloc_self w (.cells #[.int .u32 0, .slice none 0 0] 36)
  have hqb := below_new w (.cells #[.int .u32 0, .slice none 0 0] 36)
  generalize w.alloc (.cells #[.int .u32 0, .slice none 0 0] 36) = q at hq1 hqb ⊢
  have Q1 := Lib.hid hq1
  have QB := Lib.hid hqb
  have QL : w.heap.size < q.heap.size := heap_lt hq1
  have QB0 := Lib.hid hqb
  clear hq1 hqb
  go_loopw [4, 12] (fun s4 s12 wr => ∃ i : Nat, i ≤ 16 ∧ s12 = .int .i64 i ∧ wr.ownsRow q.heap.size 5 1 s4 (118 * i) ((bodyS (S.take i)).map u8) ∧ wr.heap[w.heap.size]? = some (.cells #[.int .u32 0, .slice none 0 0] 36 (0, 0)) ∧ Below w.heap.size w wr ∧ q.heap.size ≤ wr.heap.size) (fun _ s12 _ => 16 - (intOf s12).toNat)
  case atStart => exact ⟨0, by omega, rfl, World.ownsRow_nil _ _ _ _, Q1.out, QB.out, Nat.le_refl _⟩
  case round =>
    obtain ⟨i, hi, rfl, ho, hc, hb, hs⟩ := hrel
    clear Q1 QB
    obtain ⟨A4, c4, rfl⟩ := own_slice_ ho
    have HO := Lib.hid ho
    have HC := Lib.hid hc
    have HB := Lib.hid hb
    have HS := Lib.hid hs
    clear ho hc hb hs
    by_cases hlt : i < 16
    · have hlt' : (i : Int) < 16 := by omega
      have hiS : i < S.length := by rw [HL.out]; exact hlt
      obtain ⟨b, off, u, rfl, hbb, hcu, htu⟩ := H.out.at hiS
      have hl1 : S[i].length = 128 := H128.out _ (List.getElem_mem hiS)
      have hcu' := (HB.out.cell (p := ⟨b, _, none⟩) hbb).trans hcu
      have HT := Lib.hid (htu.below HB.out)
      obtain ⟨A6, c6, rfl, -, -, -, -⟩ := htu
      rw [hl1] at hcu'
      have hsn := bodyS_snoc (List.getElem?_eq_getElem hiS)
      have HSN := Lib.hid hsn
      have ht1 := HT.out
      obtain ⟨b6, o6, h6, hc6, hsub⟩ := ht1.sub (k := 6) (L := 118) (by omega) (by omega)
      rw [hl1] at hc6
      subst h6
      have hcu' : wr.cell? ⟨b, off + i, none⟩ = some (.slice (some ⟨b6, o6, none⟩) 128 c6) := hcu'
      have HSUB := Lib.hid hsub
      have hc6a : (124 : Int) ≤ c6 := by omega
      have hbl : ((S[i].drop 6).take 118).length = 118 := by rw [List.length_take, List.length_drop, hl1]; omega
      have HBL := Lib.hid hbl
      have HQL := QL
      clear hsn hsub ht1 hcu hbl
      go_wp2_with (refine wpList_append_txt (o := ⟨some 19, _, _, _, _, _⟩) rfl (.tmp 16) (.tmp 18) _ rfl Try.underlying34 I0.out I1.out I2.out I3.out rfl HO.out rfl HSUB.out (by rw [HBL.out]; omega) HS.out ?_; intro v1 w1 hown1 hgrow1; obtain ⟨A1, c1, rfl⟩ := own_slice_ hown1)
      go_roundw
      case measure => simp [intOf]; omega
      case rel =>
        refine ⟨i + 1, by omega, by go_num, ?_, ?_, ?_, ?_⟩
        · rw [HSN.out, List.map_append, show 118 * (i + 1) = 118 * i + 118 from by omega]
          rw [HBL.out] at hown1
          exact hown1
        · exact (hgrow1.block _ (heap_lt HC.out) (fun e => by have := own_ge HO.out _ e.symm; have := HQL; omega)).trans HC.out
        · exact HB.out.grown hgrow1 HB.out.size (fun k hk => by have := own_ge HO.out k hk; have := HQL; omega)
        · exact Nat.le_trans HS.out hgrow1.size
    · obtain rfl : i = 16 := by omega
      have hlt' : ¬ (16 : Int) < 16 := by omega
      have hO := HO.out
      rw [List.take_of_length_le (by rw [HL.out]; exact Nat.le_refl _)] at hO
      obtain ⟨B, hB⟩ : ∃ B, B = bodyS S := ⟨_, rfl⟩
      rw [← hB] at hO
      have hBl : B.length = 1888 := by rw [hB, bodyS_length H128.out, HL.out]
      have HBB := Lib.hid hB
      have HBL := Lib.hid hBl
      obtain ⟨A0, o0, u0, rfl, hb0, hcu, htu⟩ := H.out.at (j := 0) (by rw [HL.out]; omega)
      have hl0 : (S[0]'(by rw [HL.out]; omega)).length = 128 := H128.out _ (List.getElem_mem _)
      have hg0 : genS S = leN ((S[0]'(by rw [HL.out]; omega)).take 4) := by rw [genS, List.getD_eq_getElem?_getD, List.getElem?_eq_getElem (by rw [HL.out]; omega)]; rfl
      have HG0 := Lib.hid hg0
      have hT0 : Txt w w.heap.size u0 _ := htu
      generalize S[0]'(by rw [HL.out]; omega) = s0 at hl0 hg0 hT0 HG0 hcu
      have HC0 := Lib.hid ((HB.out.cell (p := ⟨A0, _, none⟩) hb0).trans hcu)
      have HT0 := Lib.hid (hT0.below HB.out)
      obtain ⟨A6, c6, rfl, hc6, -, -, -⟩ := hT0
      have HC0 : Hid (wr.cell? ⟨A0, o0, none⟩ = some (.slice A6 128 c6)) := Lib.hid (by have := HC0.out; rw [hl0] at this; exact this)
      clear htu hg0 hcu hB
      have hO2 := hO.2
      rcases hO2 with ⟨_, h2⟩ | ⟨b4, cp4, cur, e4, hlo4, hgb4, hcap4, hmx4, hsz4, htk4⟩
      · omega
      cases e4
      have HO4 := Lib.hid hgb4
      have HTX := Lib.hid (Txt.of_own (by rw [hBl]; exact hO) (by rw [hBl]; unfold maxLen; omega))
      have hLO := Lib.hid hlo4
      have HMX := Lib.hid hmx4
      have hcells : ∀ j, (h : j < B.length) → cur[j]? = some (u8 B[j]) := fun j hj => by
        have := congrArg (fun l : List Value => l[j]?) htk4
        simp only [List.getElem?_map, List.getElem?_eq_getElem hj, Option.map_some] at this
        rw [List.getElem?_take_of_lt (by omega), Array.getElem?_toList] at this
        exact this
      have HCE := Lib.hid hcells
      have hc6' : (4 : Int) ≤ c6 := by omega
      have hc4' : (6 : Int) ≤ c4 := by omega
      have hc4'' : 1888 ≤ c4 := by omega
      have hne4 : ¬ c4 = 6 := by omega
      have ht4 : Txt wr wr.heap.size (.slice (some ⟨b4, 4, none⟩) 2 (c4 - 4)) ((B.drop 4).take 2) := by
        have h := HTX.out
        rw [show (118 * 16) = B.length from by rw [hBl]] at h
        obtain ⟨bb, oo, e, _, hh⟩ := h.sub (k := 4) (L := 2) (by omega) (by omega)
        cases e
        simpa using hh
      have HT4 := Lib.hid ht4
      have ht0 : Txt wr w.heap.size (.slice A6 4 c6) (s0.take 4) := by
        have h := HT0.out
        exact h.cut (by omega)
      have HTa := Lib.hid ht0
      have HBS := HB
      clear hO hlo4 hgb4 hcap4 hsz4 htk4 hcells ht4 ht0 hmx4
      go_wp2_with fail
      refine wp_region_held_drew (S := fun w' => Below wr.heap.size wr.drew w') (by kernel_rfl) (Below.refl _ _) (fun hHeld => ?_)
      refine wpAnyH_take (i := 0) (v := ?_) rfl (by kernel_rfl) (by kernel_rfl) (by kernel_rfl) (fun _ _ _ h => h) (Or.inl ⟨by rfl, ?_⟩) hHeld ?_
      rotate_left
      · intro w' hSw; go_simp; try with_reducible rfl
      simp only [List.getElem_toArray, List.getElem_cons_succ, List.getElem_cons_zero, Act.put, List.setIfInBounds_toArray, List.set_cons_zero, List.set_cons_succ]
      refine wpAnyH_take (i := 1) (v := ?_) rfl (by kernel_rfl) (by kernel_rfl) (by kernel_rfl) (fun _ _ _ h => h) (Or.inl ⟨by rfl, ?_⟩) hHeld ?_
      rotate_left
      · intro w' hSw; go_simp; try with_reducible rfl
      simp only [List.getElem_toArray, List.getElem_cons_succ, List.getElem_cons_zero, Act.put, List.setIfInBounds_toArray, List.set_cons_zero, List.set_cons_succ]
      refine wpAnyH_take (i := 2) (v := ?_) rfl (by kernel_rfl) (by kernel_rfl) (by kernel_rfl) (fun _ _ _ h => h) (Or.inl ⟨by rfl, ?_⟩) hHeld ?_
      rotate_left
      · intro w' hSw; have c0 := ((show Below wr.heap.size wr.drew w' from hSw).cell (p := ⟨A0, o0, none⟩) (cell_lt HC0.out)).trans HC0.out; go_simp; try with_reducible rfl
      simp only [List.getElem_toArray, List.getElem_cons_succ, List.getElem_cons_zero, Act.put, List.setIfInBounds_toArray, List.set_cons_zero, List.set_cons_succ]
      refine wpAnyH_take (i := 3) (v := ?_) rfl (by kernel_rfl) (by kernel_rfl) (by kernel_rfl) (fun _ _ _ h => h) (Or.inl ⟨by rfl, ?_⟩) hHeld ?_
      rotate_left
      · intro w' hSw; go_simp; try with_reducible rfl
      simp only [List.getElem_toArray, List.getElem_cons_succ, List.getElem_cons_zero, Act.put, List.setIfInBounds_toArray, List.set_cons_zero, List.set_cons_succ]
      refine wpAnyH_take (i := 5) (v := ?_) rfl (by kernel_rfl) (by kernel_rfl) (by kernel_rfl) (fun _ _ _ h => h) (Or.inl ⟨by rfl, ?_⟩) hHeld ?_
      rotate_left
      · intro w' hSw; go_simp; try with_reducible rfl
      simp only [List.getElem_toArray, List.getElem_cons_succ, List.getElem_cons_zero, Act.put, List.setIfInBounds_toArray, List.set_cons_zero, List.set_cons_succ]
      refine wpAnyH_take (i := 6) (v := ?_) rfl (by kernel_rfl) (by kernel_rfl) (by kernel_rfl) (fun _ _ _ h => h) (Or.inl ⟨by rfl, ?_⟩) hHeld ?_
      rotate_left
      · intro w' hSw; go_simp; try with_reducible rfl
      simp only [List.getElem_toArray, List.getElem_cons_succ, List.getElem_cons_zero, Act.put, List.setIfInBounds_toArray, List.set_cons_zero, List.set_cons_succ]
      refine wpAnyH_take (i := 9) (v := ?_) rfl (by kernel_rfl) (by kernel_rfl) (by kernel_rfl) (fun _ _ _ h => h) (Or.inl ⟨by rfl, ?_⟩) hHeld ?_
      rotate_left
      · intro w' hSw; go_simp; try with_reducible rfl
      simp only [List.getElem_toArray, List.getElem_cons_succ, List.getElem_cons_zero, Act.put, List.setIfInBounds_toArray, List.set_cons_zero, List.set_cons_succ]
      refine wpAnyH_take (i := 10) (v := ?_) rfl (by kernel_rfl) (by kernel_rfl) (by kernel_rfl) (fun _ _ _ h => h) (Or.inl ⟨by rfl, ?_⟩) hHeld ?_
      rotate_left
      · intro w' hSw; go_simp; try with_reducible rfl
      simp only [List.getElem_toArray, List.getElem_cons_succ, List.getElem_cons_zero, Act.put, List.setIfInBounds_toArray, List.set_cons_zero, List.set_cons_succ]
      refine wpAnyH_ready (rs := [4]) (by kernel_rfl) (by simp) ?_
      refine AllReadyH.cons rfl (fun K hK => ?_) AllReadyH.nil
      go_simp
      refine (snum_any _ _ wr.drew ((HTa.out.below (Below.refl _ _).drew).more HBS.out.size) (by rw [List.length_take]; omega)).mono ?_
      rintro e wA ⟨rfl, bA⟩
      have BA : Hid (Below wr.heap.size wr.drew wA) := Lib.hid bA
      clear bA
      try go_wp2_with fail
      refine hK.out _ _ ?_ (fun hHeld => ?_)
      · exact BA.out
      clear hK K
      try simp only [List.getElem_toArray, List.getElem_cons_succ, List.getElem_cons_zero, Act.put, List.setIfInBounds_toArray, List.set_cons_zero, List.set_cons_succ]
      refine wpAnyH_ready (rs := [7]) (by kernel_rfl) (by simp) ?_
      refine AllReadyH.cons rfl (fun K hK => ?_) AllReadyH.nil
      go_simp
      refine (snum_any _ _ wA ((HT4.out.below ((show Below wr.heap.size wr wA from (Below.refl _ _).drew.trans BA.out))).more BA.out.size) (by rw [List.length_take]; omega)).mono ?_
      rintro e wB ⟨rfl, bB⟩
      have BB : Hid (Below wr.heap.size wr.drew wB) := Lib.hid (BA.out.trans (bB.mono BA.out.size))
      clear bB
      try go_wp2_with fail
      refine hK.out _ _ ?_ (fun hHeld => ?_)
      · exact BB.out
      clear hK K
      try simp only [List.getElem_toArray, List.getElem_cons_succ, List.getElem_cons_zero, Act.put, List.setIfInBounds_toArray, List.set_cons_zero, List.set_cons_succ]
      refine wpAnyH_take (i := 8) (v := ?_) rfl (by kernel_rfl) (by kernel_rfl) (by kernel_rfl) (fun _ _ _ h => h) (Or.inl ⟨by rfl, ?_⟩) hHeld ?_
      rotate_left
      · intro w' hSw; go_simp; try with_reducible rfl
      simp only [List.getElem_toArray, List.getElem_cons_succ, List.getElem_cons_zero, Act.put, List.setIfInBounds_toArray, List.set_cons_zero, List.set_cons_succ]
      refine wpAnyH_take (i := 11) (v := ?_) rfl (by kernel_rfl) (by kernel_rfl) (by kernel_rfl) (fun _ _ _ h => h) (Or.inl ⟨by rfl, ?_⟩) hHeld ?_
      rotate_left
      · intro w' hSw; go_simp; try with_reducible rfl
      simp only [List.getElem_toArray, List.getElem_cons_succ, List.getElem_cons_zero, Act.put, List.setIfInBounds_toArray, List.set_cons_zero, List.set_cons_succ]
      refine wpAnyH_take (i := 12) (v := ?_) rfl (by kernel_rfl) (by kernel_rfl) (by kernel_rfl) (fun _ _ _ h => h) (Or.inl ⟨by rfl, ?_⟩) hHeld ?_
      rotate_left
      · intro w' hSw; go_simp; try with_reducible rfl
      simp only [List.getElem_toArray, List.getElem_cons_succ, List.getElem_cons_zero, Act.put, List.setIfInBounds_toArray, List.set_cons_zero, List.set_cons_succ]
      refine wpAnyH_take (i := 13) (v := ?_) rfl (by kernel_rfl) (by kernel_rfl) (by kernel_rfl) (fun _ _ _ h => h) (Or.inl ⟨by rfl, ?_⟩) hHeld ?_
      rotate_left
      · intro w' hSw; go_simp; try with_reducible rfl
      simp only [List.getElem_toArray, List.getElem_cons_succ, List.getElem_cons_zero, Act.put, List.setIfInBounds_toArray, List.set_cons_zero, List.set_cons_succ]
      refine wpAnyH_done (by kernel_rfl) ?_ _
      have hC2 := (BB.out.block w.heap.size (heap_lt HC.out)).trans HC.out
      have C2 := Lib.hid hC2
      have B2 : Hid (Below w.heap.size w wB) := Lib.hid (HBS.out.trans (((Below.refl _ wr).drew.trans BB.out).mono HBS.out.size))
      have G2 := Lib.hid ((BB.out.block b4 (heap_lt HO4.out)).trans HO4.out)
      obtain ⟨r0, r1⟩ := cell2_of hC2
      have f0 := frozen2_of hC2 0
      have f1 := frozen2_of hC2 1
      obtain ⟨G, hG⟩ : ∃ G, G = leN (s0.take 4) := ⟨_, rfl⟩
      obtain ⟨Z, hZ⟩ : ∃ Z, Z = leN ((B.drop 4).take 2) := ⟨_, rfl⟩
      have hZl : Z < 65536 := by
        rw [hZ]
        exact Nat.lt_of_lt_of_le (leN_lt _) (Nat.pow_le_pow_right (n := 256) (by omega) (by rw [List.length_take]; omega : ((B.drop 4).take 2).length ≤ 2))
      have hwz : IntKind.i64.wrap (Z : Int) = Z := by simp [IntKind.wrap, IntKind.bits]; omega
      have hT : toldR S = if G = 0 ∨ 1882 < Z then none else some (G, (B.drop 6).take Z) := by
        rw [toldR, HG0.out, ← hG, ← HBB.out, textS, sizeS, ← hZ, HBL.out]
      rw [← hG, ← hZ, hwz]
      have HT := Lib.hid hT
      clear hG hZ hwz hT HT4 HTa HC0 HG0 hHeld HTX HT0 HC HB hC2
      by_cases hg : G = 0
      · subst hg
        go_wp2_with fail
        refine bodyPost_ret (results_2_tmp rfl _ _ w.heap.size rfl (heap_set2 C2.out _ _) Try.underlying36 infoRec2 _ rfl) rfl ⟨?_, below_set2 B2.out (Nat.le_refl _) _ _⟩
        rw [HT.out, if_pos (by simp)]
        exact rfl
      · have hg' : ¬ (G : Int) = 0 := by omega
        by_cases hz : 1882 < Z
        · have hz' : (1882 : Int) < Z := by omega
          go_wp2_with fail
          refine bodyPost_ret (results_2_tmp rfl _ _ w.heap.size rfl (heap_set2 C2.out _ _) Try.underlying36 infoRec2 _ rfl) rfl ⟨?_, below_set2 B2.out (Nat.le_refl _) _ _⟩
          rw [HT.out, if_pos (.inr hz)]
          exact rfl
        · have hz' : ¬ (1882 : Int) < Z := by omega
          have hz3 : (Z : Int) ≤ c4 - 6 := by omega
          have hz4 : (Z : Int) ≤ ((c4 - 6 : Nat) : Int) := by omega
          have hc46 : 1882 ≤ c4 - 6 := by omega
          go_wp2_with fail
          have hlt : ((B.drop 6).take Z).length = Z := by rw [List.length_take, List.length_drop, HBL.out]; omega
          have hne : b4 ≠ w.heap.size := by have := hLO.out; have := QL; omega
          have G3 := (heap_setFar (wB.setCell ⟨w.heap.size, 0, none⟩ (.int .u32 (G : Int))) w.heap.size 1 b4 (.slice (some ⟨b4, 6, none⟩) Z (c4 - 6)) hne).trans ((heap_setFar wB w.heap.size 0 b4 (.int .u32 (G : Int)) hne).trans G2.out)
          refine bodyPost_ret (results_2_tmp rfl _ _ w.heap.size rfl (heap_set2 C2.out _ _) Try.underlying36 infoRec2 _ rfl) rfl ⟨?_, below_set2 B2.out (Nat.le_refl _) _ _⟩
          rw [HT.out, if_neg (by rintro (h | h) <;> omega)]
          refine ⟨_, rfl, b4, 6, c4 - 6, cur, by rw [hlt], by have := hLO.out; have := QL; omega, G3, by omega, by have := HMX.out; omega, fun j hj => ?_⟩
          rw [hlt] at hj
          rw [HCE.out (6 + j) (by rw [HBL.out]; omega)]
          simp
end Go.Proofs.Ytdjoflhcagfmiaa
