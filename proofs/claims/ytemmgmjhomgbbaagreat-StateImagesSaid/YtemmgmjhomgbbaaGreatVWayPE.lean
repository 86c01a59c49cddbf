/-
 The program's package way: leave.
 Conditions: fewer than fifty asks and ends.
-/
import Derived.Test.YtemmgmjhomgbbaaGreatVWayPD
set_option linter.unusedVariables false
set_option linter.unusedSimpArgs false
set_option maxRecDepth 100000
namespace Go.Proofs.YtemmgmjhomgbbaaGreat
open Go.RowKit

theorem infoJoinO : (Tryz.prog.info? 98).map (fun i => (i.zero, i.size, i.bytes)) = some (some (.agg #[.int .i64 0, .int .i64 0]), 2, 16) := by kernel_rfl
/-- Whether that end is one to which there is a way from where one comes in, and is right. -/
def okE (s : Sec) (inn : Int) (f : Nat → Jn → Bool) (e : Nat) : Bool := decide (0 ≤ lieS s.2.1 inn (e : Int)) && f e (s.2.2.getD e (0, 0))
/-- What leave answers, and what becomes of the walk. -/
def LeaveP (w : World) (lo g : Nat) (F : Nat → Value) (p : Pl) (r : Rt) (s : Sec) (h2 : Value) (t : Jn) (y0 y1 : Value) (x : Wy) (l : List Jn) (a : Nat) (f : Nat → Jn → Bool) (e : Ending) (w' : World) : Prop :=
 ((∃ i : Nat, i < s.2.2.length ∧ okE s t.2 f i = true ∧ (∀ j, j < i → okE s t.2 f j = false) ∧ e = .returned (.bool true) ∧ ∃ u2 u, WkS w' lo g F p r s h2 (s.2.2.getD i (0, 0)) y0 y1 u2 (addA x s.2.1 (lieS s.2.1 t.2 (i : Int)) a) u (l ++ [(s.1, (i : Int))])) ∨
  ((∀ j, j < s.2.2.length → okE s t.2 f j = false) ∧ e = .returned (.bool false))) ∧ Below lo w w'
set_option maxHeartbeats 16000000 in
theorem pleave_next {lo g : Nat} {F : Nat → Value} {p : Pl} {r : Rt} {s : Sec} {h2 : Value} {t : Jn} {y0 y1 y2 : Value} {x : Wy} {o : Value} {l : List Jn} (w : World) (h : WkS w lo g F p r s h2 t y0 y1 y2 x o l) (a : Nat) (f : Nat → Jn → Bool) (k0 : Nat) (hx : x.asks.length ≤ 50) (hlo : l.length ≤ 50) (hs : shapedB s = true)
  (hf : ∀ (W : World) (e : Nat) (j0 j1 : Int), Below w.heap.size w W → Calls Tryz.prog 132 #[.int .i64 e, .agg #[.int .i64 j0, .int .i64 j1], .pointer (some ⟨k0, 0, none⟩)] W fun e' W' => e' = .returned (.bool (f e (j0, j1))) ∧ Below W.heap.size W W') :
  Calls Tryz.prog 116 #[.pointer (some ⟨g, 0, none⟩), .int .i64 a, .func (.func 132) #[] #[.pointer (some ⟨k0, 0, none⟩)]] w fun e w' => LeaveP w lo g F p r s h2 t y0 y1 x l a f e w' := by
 have WK0 := Lib.hid h
 obtain ⟨sid, spt, es⟩ := s
 obtain ⟨t0, t1⟩ := t
 have WK : Hid (WkS w lo g F p r (sid, spt, es) h2 (t0, t1) y0 y1 y2 x o l) := WK0
 have HX := Lib.hid hx
 have HFN := Lib.hid hf
 have HLC := Lib.hid hlo
 obtain ⟨Ae, ce, eA, hcl, hcm⟩ := WK.out.ends.slice
 obtain ⟨ne, hne⟩ : ∃ n, n = es.length := ⟨_, rfl⟩
 have HNE := Lib.hid hne
 have hnm : ne ≤ 9223372036854775807 := by have hcl' : es.length ≤ ce := hcl; rw [hne]; unfold maxLen at hcm; omega
 have HE0 : Hid (JoinsIn w w.heap.size (.slice Ae ne ce) es) := Lib.hid (by have := WK.out.ends.more joinR WK.out.size; rw [eA, ← hne] at this; exact this)
 have HH2 : Hid (h2 = .slice Ae ne ce) := Lib.hid (by rw [eA, ← hne])
 have SZ : Hid (g < w.heap.size) := Lib.hid WK.out.lt
 have HSH := Lib.hid hs
 have k16 : w.cell? ⟨g, 16, none⟩ = some (.slice Ae ne ce) := WK.out.cell 16 (congrArg some HH2.out)
 have LP : Hid (∀ e w', LeaveP w lo g F p r (sid, spt, es) h2 (t0, t1) y0 y1 x l a f e w' → LeaveP w lo g F p r (sid, spt, es) h2 (t0, t1) y0 y1 x l a f e w') := Lib.hid (fun _ _ h => h)
 clear h WK0 hx hf hlo hs eA hcl hcm hne
 go_enter Tryz.func116, Tryz.ntmps116
 go_wp2_with fail
 go_loopw [17] (fun s17 wr => ∃ i : Nat, i ≤ ne ∧ s17 = .int .i64 i ∧ (∀ j, j < i → okE (sid, spt, es) t1 f j = false) ∧ Below w.heap.size w wr) (fun s17 _ => ne - (intOf s17).toNat)
 case atStart => exact ⟨0, by omega, by go_num, fun j hj => absurd hj (by omega), Below.refl _ _⟩
 case round =>
  obtain ⟨i, hi, rfl, hall, hb⟩ := hrel
  have HALL := Lib.hid hall
  have BW := Lib.hid hb
  clear hall hb k16
  by_cases hlt : i < ne
  ·have hlt' : (i : Int) < ne := by omega
   have hie : i < es.length := by rw [← HNE.out]; exact hlt
   obtain ⟨be, oe, e5, hbe, hh0, hh1⟩ := ((HE0.out.below joinR BW.out).more joinR BW.out.size).at hie
   cases e5
   obtain ⟨j0, j1, ht⟩ : ∃ a b, es[i] = (a, b) := ⟨_, _, rfl⟩
   rw [ht] at hh0 hh1
   have HGD : Hid (es.getD i (0, 0) = (j0, j1)) := Lib.hid (by rw [List.getD, List.getElem?_eq_getElem hie, ht]; rfl)
   have he0 : wr.cell? ⟨be, oe + i * 2, none⟩ = some (.int .i64 j0) := hh0
   have he1 : wr.cell? ⟨be, oe + i * 2 + 1, none⟩ = some (.int .i64 j1) := hh1
   obtain ⟨Z, hZ⟩ : ∃ z, z = lieS spt t1 (i : Int) := ⟨_, rfl⟩
   have HZ := Lib.hid hZ
   have XX0 := heap_alloc_self wr (.cells #[.int .i64 0, .int .i64 0] 98)
   have hz0 := below_setRow (below_new wr (.cells #[.int .i64 0, .int .i64 0] 98)) (Nat.le_refl _) #[.int .i64 j0, .int .i64 j1]
   have hz1 := setRow_heap (wr.alloc (.cells #[.int .i64 0, .int .i64 0] 98)) wr.heap.size _ #[.int .i64 j0, .int .i64 j1] 98 _ XX0
   clear hh0 hh1 hbe ht hZ
   go_upto_region 4 with ((with_reducible show wpList _ _ _ (⟨none, _, _, _, _, _⟩ :: _) _ _); refine wpList_store_rowS rfl _ (.tmp 8) (.tmp 21) rfl wr.heap.size rfl (c' := #[.int .i64 j0, .int .i64 j1]) rfl XX0 infoJoin2 rfl (by simp [Value.oneCell']) ?_)
   generalize (wr.alloc (.cells #[.int .i64 0, .int .i64 0] 98)).setRow wr.heap.size #[.int .i64 j0, .int .i64 j1] = wq at hz0 hz1 ⊢
   obtain ⟨p8, hp8⟩ : ∃ n, n = wr.heap.size := ⟨_, rfl⟩
   rw [← hp8] at hz1 ⊢
   have X8 := Lib.hid hz1
   have BQ : Hid (Below w.heap.size w wq) := Lib.hid (BW.out.trans (hz0.mono BW.out.size))
   have P8 : Hid (p8 ≠ g ∧ o.ownBlock ≠ some p8 ∧ y2.ownBlock ≠ some p8) := Lib.hid (by
    have h1 := BW.out.size
    have h2 := SZ.out
    exact ⟨by omega, fun e => by have := own_lt WK.out.outs p8 e; omega, fun e => by have := own_lt WK.out.way.asks p8 e; omega⟩)
   have WQ := Lib.hid (WK.out.below BQ.out)
   have SZR := Lib.hid WQ.out.lt
   have L14 : Hid (wq.cell? ⟨g, 14, none⟩ = some (.int .i64 sid)) := Lib.hid (WQ.out.cell 14 rfl)
   have L15 : Hid (wq.cell? ⟨g, 15, none⟩ = some (.int .i64 spt)) := Lib.hid (WQ.out.cell 15 rfl)
   have L16 : Hid (wq.cell? ⟨g, 16, none⟩ = some (.slice (some ⟨be, oe, none⟩) ne ce)) := Lib.hid (WQ.out.cell 16 (congrArg some HH2.out))
   have L18 : Hid (wq.cell? ⟨g, 18, none⟩ = some (.int .i64 t1)) := Lib.hid (WQ.out.cell 18 rfl)
   have HEQ : Hid (JoinsIn wq wq.heap.size (.slice (some ⟨be, oe, none⟩) ne ce) es) := Lib.hid ((HE0.out.below joinR BQ.out).more joinR BQ.out.size)
   clear hz0 hz1 XX0 hp8 he0 he1
   by_cases hl : Z < 0
   ·have HTE : Hid (thrE (sid, spt, es) t1 i = 2) := Lib.hid (by rw [thrE, HSH.out, if_pos rfl, if_pos (by rw [← HZ.out]; exact hl)])
    have HTL : Hid (thrL (sid, spt, es) t1 i = 0) := Lib.hid (by rw [thrL, HTE.out]; rfl)
    have NX : Hid (∀ j, j < i + 1 → okE (sid, spt, es) t1 f j = false) := Lib.hid (fun j hj => by
     rcases Nat.lt_or_ge j i with h | h
     ·exact HALL.out j h
     ·obtain rfl : j = i := by omega
      rw [okE, decide_eq_false (by rw [← HZ.out]; omega)]; rfl)
    clear hl
    refine wp_region_held_drew (S := fun v => Below wq.heap.size wq v) (by kernel_rfl) (Below.refl wq.heap.size wq).drew (fun hHeld => ?_)
    refine tk 0 hHeld ?_;refine tk 1 hHeld ?_;refine tk 2 hHeld ?_
    refine wpAnyH_take (i := 3) (v := ?_) rfl (by kernel_rfl) (by kernel_rfl) (by kernel_rfl) (fun _ _ _ h => h) (Or.inl ⟨by rfl, ?_⟩) hHeld ?_
    rotate_left
    ·intro w' hSw; have ch0 := (hSw.cell (p := ⟨g, 14, none⟩) SZR.out).trans L14.out; have ch1 := (hSw.cell (p := ⟨g, 15, none⟩) SZR.out).trans L15.out; have ch2 := (hSw.cell (p := ⟨g, 16, none⟩) SZR.out).trans L16.out; go_simp; try with_reducible rfl
    simp only [zn, Act.put]
    refine tk 4 hHeld ?_;refine tk 5 hHeld ?_;refine tk 6 hHeld ?_;refine tk 7 hHeld ?_;refine tkc 8 hHeld (fun w' hSw => (hSw.cell (p := ⟨g, 18, none⟩) SZR.out).trans L18.out) ?_;refine tk 9 hHeld ?_
    refine tkr 10 (fun K hK => ?_)
    go_simp
    refine (pthrough_any _ (sid, spt, es) t1 i wq.drew ⟨_, rfl, (HEQ.out.below joinR (Below.refl wq.heap.size wq).drew)⟩).mono ?_
    rintro e wL ⟨rfl, bL⟩
    have BL : Hid (Below wq.heap.size wq wL) := Lib.hid ((Below.refl wq.heap.size wq).drew.trans bL)
    clear bL
    rw [HTL.out, HTE.out]
    try go_wp2_with fail
    refine hK.out _ _ ?_ fun hHeld => ?_;exact BL.out;clear hK K;try simp only [zn, Act.put]
    refine tk 11 hHeld ?_;refine tk 12 hHeld ?_;refine tk 13 hHeld ?_;refine tk 14 hHeld ?_;refine tk 15 hHeld ?_
    refine wpAnyH_done (by kernel_rfl) ?_ _
    have BN : Hid (Below w.heap.size w wL) := Lib.hid (BQ.out.trans (BL.out.mono BQ.out.size))
    go_wp2_with fail
    go_roundw
    case measure => simp [intOf]; omega
    case rel => exact ⟨i + 1, by omega, by go_num, NX.out, BN.out⟩
   have HTE : Hid (thrE (sid, spt, es) t1 i = 0) := Lib.hid (by rw [thrE, HSH.out, if_pos rfl, if_neg (by rw [← HZ.out]; exact hl)])
   have HTL : Hid (thrL (sid, spt, es) t1 i = Z) := Lib.hid (by rw [thrL, HTE.out, if_pos rfl]; exact HZ.out.symm)
   have HL := Lib.hid hl
   clear hl
   refine wp_region_held_drew (S := fun v => Below wq.heap.size wq v) (by kernel_rfl) (Below.refl wq.heap.size wq).drew (fun hHeld => ?_)
   refine tk 0 hHeld ?_;refine tk 1 hHeld ?_;refine tk 2 hHeld ?_
   refine wpAnyH_take (i := 3) (v := ?_) rfl (by kernel_rfl) (by kernel_rfl) (by kernel_rfl) (fun _ _ _ h => h) (Or.inl ⟨by rfl, ?_⟩) hHeld ?_
   rotate_left
   ·intro w' hSw; have ch0 := (hSw.cell (p := ⟨g, 14, none⟩) SZR.out).trans L14.out; have ch1 := (hSw.cell (p := ⟨g, 15, none⟩) SZR.out).trans L15.out; have ch2 := (hSw.cell (p := ⟨g, 16, none⟩) SZR.out).trans L16.out; go_simp; try with_reducible rfl
   simp only [zn, Act.put]
   refine tk 4 hHeld ?_;refine tk 5 hHeld ?_;refine tk 6 hHeld ?_;refine tk 7 hHeld ?_;refine tkc 8 hHeld (fun w' hSw => (hSw.cell (p := ⟨g, 18, none⟩) SZR.out).trans L18.out) ?_;refine tk 9 hHeld ?_
   refine tkr 10 (fun K hK => ?_)
   go_simp
   refine (pthrough_any _ (sid, spt, es) t1 i wq.drew ⟨_, rfl, (HEQ.out.below joinR (Below.refl wq.heap.size wq).drew)⟩).mono ?_
   rintro e wL ⟨rfl, bL⟩
   have BL : Hid (Below wq.heap.size wq wL) := Lib.hid ((Below.refl wq.heap.size wq).drew.trans bL)
   clear bL
   rw [HTL.out, HTE.out]
   try go_wp2_with fail
   refine hK.out _ _ ?_ fun hHeld => ?_;exact BL.out;clear hK K;try simp only [zn, Act.put]
   refine tk 11 hHeld ?_;refine tk 12 hHeld ?_;refine tk 13 hHeld ?_;refine tk 14 hHeld ?_;refine tk 15 hHeld ?_
   refine wpAnyH_done (by kernel_rfl) ?_ _
   have BN : Hid (Below w.heap.size w wL) := Lib.hid (BQ.out.trans (BL.out.mono BQ.out.size))
   have XL8 := Lib.hid ((BL.out.block _ (heap_lt X8.out)).trans X8.out)
   obtain ⟨m0, m1⟩ := cell2_of XL8.out
   obtain ⟨G, hG⟩ : ∃ b, b = f i (j0, j1) := ⟨_, rfl⟩
   have HG := Lib.hid hG
   clear hG
   cases G with
   | false =>
    have NX : Hid (∀ j, j < i + 1 → okE (sid, spt, es) t1 f j = false) := Lib.hid (fun j hj => by
     rcases Nat.lt_or_ge j i with h | h
     ·exact HALL.out j h
     ·obtain rfl : j = i := by omega
      rw [okE, HGD.out, ← HG.out, Bool.and_false])
    go_wp2_with fail
    refine (HFN.out wL i j0 j1 BN.out).mono ?_
    rintro e wC ⟨rfl, bC⟩
    rw [← HG.out]
    have BC : Hid (Below w.heap.size w wC) := Lib.hid (BN.out.trans (bC.mono BN.out.size))
    clear bC m0 m1
    go_wp2_with fail
    go_roundw
    case measure => simp [intOf]; omega
    case rel => exact ⟨i + 1, by omega, by go_num, NX.out, BC.out⟩
   | true =>
    have OK : Hid (okE (sid, spt, es) t1 f i = true) := Lib.hid (by rw [okE, HGD.out, ← HG.out, Bool.and_true]; exact decide_eq_true (by have := HL.out; rw [← HZ.out]; omega))
    go_wp2_with fail
    refine (HFN.out wL i j0 j1 BN.out).mono ?_
    rintro e wC ⟨rfl, bC⟩
    rw [← HG.out]
    have BC : Hid (Below w.heap.size w wC) := Lib.hid (BN.out.trans (bC.mono BN.out.size))
    have XC8 := Lib.hid ((bC.block _ (heap_lt XL8.out)).trans XL8.out)
    have WC := Lib.hid (WK.out.below BC.out)
    clear bC m0 m1
    go_wp2_with fail
    refine (pask_any wC WC.out a Z HX.out).mono ?_
    rintro e wR ⟨rfl, ⟨u2, hu⟩, bR, hfar⟩
    have UR : Hid (WkS wR lo g F p r (sid, spt, es) h2 (t0, t1) y0 y1 u2 (addA x spt Z a) o l) := Lib.hid hu
    have BR : Hid (Below lo w wR) := Lib.hid ((BC.out.mono WK.out.size).trans bR)
    have XR8 : Hid (wR.heap[p8]? = some (.cells #[.int .i64 j0, .int .i64 j1] 98 (0, 0))) := Lib.hid ((hfar p8 (heap_lt XC8.out) P8.out.1 P8.out.2.2).trans XC8.out)
    clear hu bR hfar
    have P8' : Hid (p8 ≠ g ∧ o.ownBlock ≠ some p8) := Lib.hid ⟨P8.out.1, P8.out.2.1⟩
    clear P8
    have P8 := P8'
    clear P8'
    obtain ⟨Ao, co_, eO⟩ := UR.out.outs.slice
    obtain ⟨no, hno⟩ : ∃ n, n = l.length := ⟨_, rfl⟩
    have HLO := Lib.hid hno
    have LLE : Hid (no ≤ 50) := Lib.hid (by rw [hno]; exact HLC.out)
    have HO : Hid (o = .slice Ao no co_) := Lib.hid (by rw [eO, hno])
    have SR : Hid (g + 1 ≤ wR.heap.size) := Lib.hid UR.out.lt
    obtain ⟨yss, hown, hyl, hm, hys, hyr⟩ := UR.out.outs
    rw [← HLO.out, HO.out] at hown
    have O := Lib.hid hown
    have YL := Lib.hid hyl
    have YS := Lib.hid hys
    have YR := Lib.hid hyr
    have R23 : Hid (wR.cell? ⟨g, 23, none⟩ = some (.slice Ao no co_)) := Lib.hid (UR.out.cell 23 (congrArg some HO.out))
    have R14 : Hid (wR.cell? ⟨g, 14, none⟩ = some (.int .i64 sid)) := Lib.hid (UR.out.cell 14 rfl)
    obtain ⟨i0, hii, hz0, hzz, hz2⟩ := info_parts infoJoinO
    have I0 := Lib.hid hii
    have I1 := Lib.hid hz0
    have I2 := Lib.hid hzz
    have I3 := Lib.hid hz2
    clear hii hz0 hzz hz2 hown hyl hm hys hyr hno eO
    go_upto_region 7 with fail
    refine wp_region_end (S := fun v' => Below (g + 1) wR v') 16 (by kernel_rfl) (Below.refl (g + 1) wR).drew (fun hHeld => ?_)
    refine tke [14, 15, 16] 0 hHeld ?_;refine tke [2, 3, 4, 13, 16] 1 hHeld ?_;refine tke [3, 4, 13, 16] 2 hHeld ?_;refine tke [4, 13, 16] 3 hHeld ?_;refine tkd [13, 16] 4 hHeld (fun w' hSw => (hSw.cell (p := ⟨g, 23, none⟩) (Nat.lt_succ_self g)).trans R23.out) ?_;refine tke [6, 7, 8, 9, 11, 12, 13, 16] 5 hHeld ?_;refine tke [7, 8, 9, 11, 12, 13, 16] 6 hHeld ?_;refine tke [8, 9, 11, 12, 13, 16] 7 hHeld ?_;refine tke [9, 11, 12, 13, 16] 8 hHeld ?_;refine tkd [11, 12, 13, 16] 9 hHeld (fun w' hSw => (hSw.cell (p := ⟨g, 14, none⟩) (Nat.lt_succ_self g)).trans R14.out) ?_;refine tke [11, 12, 13, 16] 10 hHeld ?_;refine tke [12, 13, 16] 11 hHeld ?_
    refine wpAnyE_one (i := 12) (by kernel_rfl) rfl (by kernel_rfl) (fun K hK => ?_)
    go_simp
    refine hK.out _ _ ?_ fun hHeld => ?_;exact ((Below.refl (g + 1) wR).drew.alloc SR.out _);clear hK K;try simp only [zn, Act.put]
    refine wpAnyE_one (i := 13) (by kernel_rfl) rfl (by kernel_rfl) (fun K hK => ?_)
    rw [if_pos (by rfl)]
    refine wp_append_list (.tmp 53) (.tmp 61) _ rfl Tryz.underlying58 I0.out I1.out rfl I2.out (by decide) I3.out (by decide) rfl (owns_below O.out ((Below.refl wR.heap.size wR).alloc (Nat.le_refl _) _).drew) rfl (m := 1) (news := [.int .i64 sid, .int .i64 (i : Int)]) rfl (fun h => by cases h) (fun a ha j u hj => by cases ha; rw [Addr.add_lit, Nat.zero_add]; show (wR.alloc (.cells #[.int .i64 sid, .int .i64 (i : Int)] 98)).cell? ⟨wR.heap.size, j, none⟩ = _; rw [World.cell?_alloc_new]; simpa using hj) (by simp [Value.oneCell']) (by have := LLE.out; omega) (by have := SR.out; simp; omega) ?_
    intro v5 w5 hown5 hgrow6
    have hgrow5 : World.grownBy (wR.alloc (.cells #[.int .i64 sid, .int .i64 (i : Int)] 98)) w5 (Value.ownBlock (.slice Ao no co_)) := ⟨hgrow6.os, hgrow6.tape, hgrow6.output, hgrow6.size, hgrow6.block⟩
    have S5 : Hid (JoinsOwn w5 (g + 1) v5 (l ++ [(sid, (i : Int))])) := Lib.hid (ListOwn.snoc (w1 := wR) (x := (sid, (i : Int))) (ys := [.int .i64 sid, .int .i64 (i : Int)]) joinR (fun _ h _ _ => h) (by rw [← HLO.out]; exact O.out) YL.out YS.out rfl (by have := LLE.out; have := HLO.out; unfold maxLen; omega) YR.out (Below.refl _ _) ⟨rfl, rfl⟩ (by rw [← HLO.out]; exact hown5) hgrow5)
    have B5 : Hid (Below (g + 1) wR w5) := Lib.hid (((Below.refl (g + 1) wR).alloc SR.out _).grown hgrow5 (by have := SR.out; simp; omega) (own_ge O.out))
    have SE : Hid (WkS (w5.setCell ⟨g, 23, none⟩ v5) lo g F p r (sid, spt, es) h2 (t0, t1) y0 y1 u2 (addA x spt Z (a : Int)) v5 (l ++ [(sid, (i : Int))]) ∧ Below lo wR (w5.setCell ⟨g, 23, none⟩ v5)) := Lib.hid (by
     have q0 := below_new wR (.cells #[.int .i64 sid, .int .i64 (i : Int)] 98)
     have h0 := UR.out.below q0
     obtain ⟨k1, k2⟩ := h0.addOut (l ++ [(sid, (i : Int))]) v5 (by rw [HO.out]; exact hgrow5) S5.out
     exact ⟨k1, (q0.mono UR.out.size).trans k2⟩)
    have FE : Hid ((w5.setCell ⟨g, 23, none⟩ v5).heap[p8]? = some (.cells #[.int .i64 j0, .int .i64 j1] 98 (0, 0))) := Lib.hid (by
     have h8 := heap_lt XR8.out
     rw [heap_setFar w5 g 23 p8 v5 P8.out.1, hgrow5.block p8 (by simp; omega) (fun e => P8.out.2 (by rw [HO.out]; exact e.symm))]
     exact (heap_alloc_lt _ _ h8).trans XR8.out)
    have kw : w5.cell? ⟨g, 23, none⟩ = some (.slice Ao no co_) := (B5.out.cell (p := ⟨g, 23, none⟩) (Nat.lt_succ_self g)).trans R23.out
    have fw : w5.frozen? ⟨g, 23, none⟩ = false := (B5.out.frozen (p := ⟨g, 23, none⟩) (Nat.lt_succ_self g)).trans (UR.out.frozen 23)
    obtain ⟨A5, c5_, rfl⟩ := own_sliceN hown5
    clear hown5 hgrow5 hgrow6
    refine hK.out _ _ ?_ fun hHeld => ?_;exact B5.out;clear hK K;try simp only [zn, Act.put]
    refine tke [15, 16] 14 hHeld ?_;refine tke [16] 15 hHeld ?_
    refine wpAnyE_last (by kernel_rfl) rfl (by kernel_rfl) (fun K hK => ?_)
    rw [if_pos (by rfl)]
    go_simp
    refine hK.out _ _ ?_
    clear hK K
    have hse := SE.out
    have hfe := FE.out
    generalize w5.setCell ⟨g, 23, none⟩ (.slice A5 (no + 1) c5_) = wS at hse hfe ⊢
    have US := Lib.hid hse.1
    have BS : Hid (Below lo w wS) := Lib.hid (BR.out.trans hse.2)
    clear SE FE S5 kw fw
    obtain ⟨m0, m1⟩ := cell2_of hfe
    have f17 := US.out.frozen 17
    have f18 := US.out.frozen 18
    have g17 : wS.cell? ⟨g, 17, none⟩ = some (.int .i64 t0) := US.out.cell 17 rfl
    have g18 : wS.cell? ⟨g, 18, none⟩ = some (.int .i64 t1) := US.out.cell 18 rfl
    clear hse hfe
    go_wp2_with fail
    go_ret
    have q := US.out.setAt (j0, j1)
    exact ⟨.inl ⟨i, by rw [← HNE.out]; exact hlt, OK.out, HALL.out, rfl, _, _, by rw [show ((sid, spt, es) : Sec).2.2.getD i (0, 0) = (j0, j1) from HGD.out]; rw [show lieS ((sid, spt, es) : Sec).2.1 ((t0, t1) : Jn).2 (i : Int) = Z from HZ.out.symm]; exact q.1⟩, BS.out.trans q.2⟩
  ·obtain rfl : ne = i := by omega
   have hlt' : ¬ (ne : Int) < ne := by omega
   go_wp2_with fail
   go_ret
   exact ⟨.inr ⟨fun j hj => HALL.out j (by rw [HNE.out]; exact hj), rfl⟩, BW.out.mono WK.out.size⟩
end Go.Proofs.YtemmgmjhomgbbaaGreat
