/-
 The program's package pack: Parse; its contract whole.
 Conditions: none.
-/
import Derived.Test.YteloiajocjahmaaGreatDoorSPckPI
import Derived.Test.YteloiajocjahmaaGreatDoorSGPckPC
import Derived.Test.YteloiajocjahmaaGreatDoorSGTxt
import Derived.Test.YteloiajocjahmaaGreatDoorSGPlnRefC
set_option linter.unusedVariables false
set_option linter.unusedSimpArgs false
set_option maxRecDepth 100000
namespace Go.Proofs.YteloiajocjahmaaGreatDoor
open Go.RowKit

theorem sects_mono {W : World} {lo lo' : Nat} {v : Value} {l : List Sec} (h : SectsOwn W lo v l) (hl : lo' ≤ lo) : SectsOwn W lo' v l := by
 obtain ⟨yss, ho, hl_, hm, hs, ht⟩ := h
 exact ⟨yss, owns_mono ho hl, hl_, hm, hs, fun j ys x h1 h2 => by
  obtain ⟨g0, g1, u, g2, g3, g4⟩ := ht j ys x h1 h2
  exact ⟨g0, g1, u, g2, g3.mono hl, g4⟩⟩
theorem routes_mono {W : World} {lo lo' : Nat} {v : Value} {l : List Rt} (h : RoutesOwn W lo v l) (hl : lo' ≤ lo) : RoutesOwn W lo' v l := by
 obtain ⟨yss, ho, hl_, hm, hs, ht⟩ := h
 exact ⟨yss, owns_mono ho hl, hl_, hm, hs, fun j ys x h1 h2 => by
  obtain ⟨h0, h1, h2, h6, u3, u4, u5, h3, h4, h5, h, b3⟩ := ht j ys x h1 h2
  exact ⟨h0, h1, h2, h6, u3, u4, u5, h3, h4, h5, h.mono hl, b3⟩⟩
/-- A plan that is read: the answer's box p2, the reader's p4. -/
structure PrsSt (w W : World) (pa pw pb p2 p4 : Nat) (v : Value) (b : List UInt8) (s : St) : Prop where
 rd : Rdr W pa pw pb v b s
 x2 : W.heap[p2]? = some (.cells #[.int .i64 0, .int .i64 0, .slice none 0 0, .slice none 0 0, .slice none 0 0, .slice none 0 0] 28 (0, 0))
 x4 : W.heap[p4]? = some (.cells #[nxV pa pw pb, enV pa pw pb] 75 (0, 0))
 b : Below w.heap.size w W
 lt : pa < p4 ∧ pw < p4 ∧ pb < p4 ∧ p2 < p4 ∧ p2 ≠ pa ∧ p2 ≠ pw ∧ p2 ≠ pb ∧ w.heap.size ≤ pa ∧ w.heap.size ≤ pw ∧ w.heap.size ≤ p2
theorem PrsSt.next {w W W' : World} {pa pw pb p2 p4 : Nat} {v : Value} {b : List UInt8} {s s' : St} (h : PrsSt w W pa pw pb p2 p4 v b s) (hr : Rdr W' pa pw pb v b s') (hb : BelowX pa pw W.heap.size W W') : PrsSt w W' pa pw pb p2 p4 v b s' := by
 obtain ⟨h1, h2, h3, h4, h5⟩ := h
 exact ⟨hr, (hb.block _ (heap_lt h2) (by omega) (by omega)).trans h2, (hb.block _ (heap_lt h3) (by omega) (by omega)).trans h3, h4.trans (hb.below h4.size (by omega) (by omega)), h5⟩
theorem PrsSt.below {w W W' : World} {pa pw pb p2 p4 : Nat} {v : Value} {b : List UInt8} {s : St} (h : PrsSt w W pa pw pb p2 p4 v b s) (hb : Below W.heap.size W W') : PrsSt w W' pa pw pb p2 p4 v b s := h.next (h.rd.below hb) (.of hb)
section
variable {lo g : Nat} {W W' : World} {v : Value}
theorem flat_fz {α : Type} {T : TypeId} {sz : Nat} {R : El α} {l : List α} (hf : FlatR R) (hT : T ≠ 28) (h : ListOwn T sz R W lo v l) (hg : W.grownBy W' (some g)) (hc : ∃ cur, W.heap[g]? = some (.cells cur 28 (0, 0))) : ListOwn T sz R W' lo v l :=
 own_kept hf h hg fun k hk e => by
  subst e
  obtain ⟨cur, hc⟩ := hc
  obtain ⟨cur', hc', -⟩ := own_block h hk
  rw [hc] at hc'
  cases hc'
  exact hT rfl
theorem own_fz {α : Type} {T : TypeId} {sz : Nat} {R : El α} {l : List α} (hT : T ≠ 28) (h : ListOwn T sz R W lo v l) (hg : W.grownBy W' (some g)) (hc : ∃ cur, W.heap[g]? = some (.cells cur 28 (0, 0))) (hR : ∀ (c : Nat → Option Value) (x : α), R W W.heap.size c x → R W' W'.heap.size c x) : ListOwn T sz R W' lo v l := by
 have h' := h
 obtain ⟨yss, ho, hl, hm, hs, ht⟩ := h
 refine ⟨yss, ho.kept hg ?_, hl, hm, hs, fun j ys x h1 h2 => hR _ _ (ht j ys x h1 h2)⟩
 cases hv : v.ownBlock with
 | none => exact .inl rfl
 | some k =>
  refine .inr fun e => ?_
  injection e with e
  subst e
  obtain ⟨cur, hc⟩ := hc
  obtain ⟨cur', hc', -⟩ := own_block h' hv
  rw [hc] at hc'
  cases hc'
  exact hT rfl
theorem secs_fz {l : List Sec} (h : SectsOwn W lo v l) (hg : W.grownBy W' (some g)) (hc : ∃ cur, W.heap[g]? = some (.cells cur 28 (0, 0))) : SectsOwn W' lo v l :=
 own_fz (by decide) h hg hc fun c x ⟨h0, h1, u, h2, h3, h4⟩ => ⟨h0, h1, u, h2, flat_fz joinF (by decide) h3 hg hc, fun k hk => Nat.lt_of_lt_of_le (h4 k hk) hg.size⟩
theorem routes_fz {l : List Rt} (h : RoutesOwn W lo v l) (hg : W.grownBy W' (some g)) (hc : ∃ cur, W.heap[g]? = some (.cells cur 28 (0, 0))) : RoutesOwn W' lo v l :=
 own_fz (by decide) h hg hc fun c x ⟨h0, h1, h2, h6, u3, u4, u5, h3, h4, h5, h, b3, b4, b5⟩ => ⟨h0, h1, h2, h6, u3, u4, u5, h3, h4, h5, ⟨flat_fz intF (by decide) h.path hg hc, flat_fz intF (by decide) h.over hg hc, flat_fz joinF (by decide) h.flanks hg hc⟩, fun k hk => Nat.lt_of_lt_of_le (b3 k hk) hg.size, fun k hk => Nat.lt_of_lt_of_le (b4 k hk) hg.size, fun k hk => Nat.lt_of_lt_of_le (b5 k hk) hg.size⟩
theorem plOwn_fz {u2 u3 u4 u5 : Value} {p : Pl} (h : PlOwn W lo u2 u3 u4 u5 p) (hg : W.grownBy W' (some g)) (hc : ∃ cur, W.heap[g]? = some (.cells cur 28 (0, 0))) : PlOwn W' lo u2 u3 u4 u5 p :=
 ⟨secs_fz h.secs hg hc, flat_fz joinF (by decide) h.pts hg hc, flat_fz sigF (by decide) h.sigs hg hc, routes_fz h.routes hg hc⟩
theorem PlOwn.mono_ {lo' : Nat} {u2 u3 u4 u5 : Value} {p : Pl} (h : PlOwn W lo u2 u3 u4 u5 p) (hl : lo' ≤ lo) : PlOwn W lo' u2 u3 u4 u5 p := ⟨sects_mono h.secs hl, h.pts.mono hl, h.sigs.mono hl, routes_mono h.routes hl⟩
end
theorem plan_step {b : List UInt8} {s s2 s3 s4 s5 s6 s7 : St} {x y : Int} {LS : List Sec} {LP : List Jn} {LG : List Sg} {LR : List Rt} (h : numM b s = (x, s2)) (h2 : numM b s2 = (y, s3)) (h3 : listM b 16 (secM b) s3 = (LS, s4)) (h4 : listM b 6 (joinM b) s4 = (LP, s5)) (h5 : listM b 10 (sigM b) s5 = (LG, s6)) (h6 : listM b 16 (routeM b) s6 = (LR, s7)) : planM b s = (⟨x, y, LS, LP, LG, LR⟩, s7) := by
 have e0 := join_read h h2
 unfold planM
 simp only [andM, e0, h3, h4, h5, h6]
/-- What stands where all lists are read. -/
def PrsEnd (w W : World) (pa pw pb p2 p4 : Nat) (v : Value) (b : List UInt8) (s : St) (z5 : Value) : Prop := ∃ (p5 : Nat) (A2 : Option Addr) (n2 c2 : Nat) (A3 : Option Addr) (n3 c3 : Nat) (A4 : Option Addr) (n4 c4 : Nat) (A5 : Option Addr) (n5 c5 : Nat) (q : Pl) (s9 : St),
 z5 = .pointer (some ⟨p5, 0, none⟩) ∧ planM b s = (q, s9) ∧ PrsSt w W pa pw pb p2 p4 v b s9 ∧ W.heap[p5]? = some (.cells #[.int .i64 q.ver, .int .i64 q.par, .slice A2 n2 c2, .slice A3 n3 c3, .slice A4 n4 c4, .slice A5 n5 c5] 28 (0, 0)) ∧ p4 < p5 ∧ PlOwn W (p4 + 1) (.slice A2 n2 c2) (.slice A3 n3 c3) (.slice A4 n4 c4) (.slice A5 n5 c5) q
set_option maxHeartbeats 16000000 in
theorem pparse_any (hs : PlanSaid) (v : Value) (b : List UInt8) (w : World) (h : Txt w w.heap.size v b) (hl : b.length ≤ 10000) :
  Calls Tryz.prog 16 #[v] w fun e w' => ∃ u2 u3 u4 u5, e = .returned (.tuple #[.agg #[.int .i64 (parseP b).ver, .int .i64 (parseP b).par, u2, u3, u4, u5], .int .i64 (parseE b)]) ∧ PlOwn w' w.heap.size u2 u3 u4 u5 (parseP b) ∧ Below w.heap.size w w' := by
 have HT := Lib.hid h
 have HL := Lib.hid hl
 have hx2 := heap_alloc_self w (.cells #[.int .i64 0, .int .i64 0, .slice none 0 0, .slice none 0 0, .slice none 0 0, .slice none 0 0] 28)
 have hb2 := below_new w (.cells #[.int .i64 0, .int .i64 0, .slice none 0 0, .slice none 0 0, .slice none 0 0, .slice none 0 0] 28)
 clear h hl
 go_enter Tryz.func16, Tryz.ntmps16
 go_upto_region 1 with fail
 generalize w.alloc (.cells #[.int .i64 0, .int .i64 0, .slice none 0 0, .slice none 0 0, .slice none 0 0, .slice none 0 0] 28) = q at hx2 hb2 ⊢
 have X2 := Lib.hid hx2
 have BQ := Lib.hid hb2
 clear hx2 hb2
 go_wp2_with fail
 refine (pover_any v b q ((HT.out.below BQ.out).more BQ.out.size) HL.out).mono ?_
 rintro e w1 ⟨pa, pw, pb, rfl, hr, ha, hw, hb⟩
 have hx2 := (hb.block _ (heap_lt X2.out)).trans X2.out
 have hlt2 := heap_lt X2.out
 have hltp := hr.lt
 have hbb := BQ.out.trans (hb.mono BQ.out.size)
 obtain ⟨p2, hp2⟩ : ∃ n, n = w.heap.size := ⟨_, rfl⟩
 rw [← hp2] at hx2 hlt2
 have hpb : p2 ≠ pb := fun e => by
  have := hr.bytes
  rw [← e, hx2] at this
  cases this
 have LW : Hid (p2 = w.heap.size ∧ p2 < q.heap.size ∧ q.heap.size ≤ pa ∧ q.heap.size ≤ pw ∧ pa < w1.heap.size ∧ pw < w1.heap.size ∧ pb < w1.heap.size ∧ q.heap.size ≤ w1.heap.size ∧ p2 ≠ pb) := Lib.hid ⟨hp2, hlt2, ha, hw, hltp.1, hltp.2.1, hltp.2.2, hb.size, hpb⟩
 have RD := Lib.hid hr
 have X2a := Lib.hid hx2
 have BB := Lib.hid hbb
 clear hr ha hw hb hx2 hlt2 hltp hbb hpb X2 BQ
 rw [← hp2]
 clear hp2
 have XX0 := heap_alloc_self w1 (.cells #[.nilFunc, .nilFunc] 75)
 have hb4 := below_setRow (below_new w1 (.cells #[.nilFunc, .nilFunc] 75)) (Nat.le_refl _) #[nxV pa pw pb, enV pa pw pb]
 have hx4 := setRow_heap (w1.alloc (.cells #[.nilFunc, .nilFunc] 75)) w1.heap.size _ #[nxV pa pw pb, enV pa pw pb] 75 _ XX0
 go_upto_region 2 with ((with_reducible show wpList _ _ _ (⟨none, _, _, _, _, _⟩ :: _) _ _); refine wpList_store_rowS rfl _ (.tmp 4) (.tmp 7) rfl w1.heap.size rfl (c' := #[nxV pa pw pb, enV pa pw pb]) rfl XX0 reader_size rfl (by simp [Value.oneCell']) ?_)
 generalize (w1.alloc (.cells #[.nilFunc, .nilFunc] 75)).setRow w1.heap.size #[nxV pa pw pb, enV pa pw pb] = q4 at hb4 hx4 ⊢
 clear XX0
 obtain ⟨p4, hp4⟩ : ∃ n, n = w1.heap.size := ⟨_, rfl⟩
 rw [← hp4] at hx4 ⊢
 have S0 : Hid (PrsSt w q4 pa pw pb p2 p4 v b (0, true)) := Lib.hid ⟨RD.out.below hb4, (hb4.block _ (heap_lt X2a.out)).trans X2a.out, hx4, BB.out.trans (hb4.mono BB.out.size), by have := LW.out; omega⟩
 have LQ0 : Hid (p4 < q4.heap.size) := Lib.hid (heap_lt hx4)
 clear hx4 hb4 hp4 RD X2a BB LW
 try simp only [zn, Act.put]
 go_cut [5] from 8 to 28 (fun z5 wx => PrsEnd w wx pa pw pb p2 p4 v b (0, true) z5)
 case first =>
  obtain ⟨lo, hlo⟩ : ∃ n, n = p4 + 1 := ⟨_, rfl⟩
  have LO : Hid (lo = p4 + 1 ∧ pa < lo ∧ pw < lo ∧ pb < lo ∧ p2 < lo) := Lib.hid (by have := S0.out.lt; omega)
  clear hlo
  obtain ⟨s, hs0⟩ : ∃ s : St, s = (0, true) := ⟨_, rfl⟩
  rw [← hs0] at S0
  have HS0 := Lib.hid hs0
  clear hs0
  refine wp_region_held_drew (S := fun W => W.heap[p4]? = some (.cells #[nxV pa pw pb, enV pa pw pb] 75 (0, 0))) (by kernel_rfl) S0.out.x4 (fun hHeld => ?_)
  refine tkc 0 hHeld (fun w' hSw => cell2_of hSw) ?_;refine tkc 2 hHeld (fun w' hSw => cell2_of hSw) ?_;refine tkc 4 hHeld (fun w' hSw => cell2_of hSw) ?_;refine tkc 5 hHeld (fun w' hSw => cell2_of hSw) ?_;refine tkc 8 hHeld (fun w' hSw => cell2_of hSw) ?_;refine tkc 9 hHeld (fun w' hSw => cell2_of hSw) ?_;refine tkc 12 hHeld (fun w' hSw => cell2_of hSw) ?_;refine tkc 13 hHeld (fun w' hSw => cell2_of hSw) ?_;refine tkc 16 hHeld (fun w' hSw => cell2_of hSw) ?_;refine tkc 17 hHeld (fun w' hSw => cell2_of hSw) ?_;refine tk 6 hHeld ?_;refine tk 10 hHeld ?_;refine tk 14 hHeld ?_;refine tk 18 hHeld ?_
  have ST_q0 := Lib.hid (S0.out.below (Below.refl q4.heap.size q4).drew)
  have LQ_q0 : Hid (lo ≤ q4.drew.heap.size) := Lib.hid (by rw [LO.out.1]; exact LQ0.out)
  generalize q4.drew = q0 at ST_q0 LQ_q0 hHeld ⊢
  clear S0 LQ0
  refine wpAnyH_ready (rs := [1, 21]) (by kernel_rfl) (by simp) ?_
  refine AllReadyH.cons rfl (fun K hK => ?_) (AllReadyH.cons rfl (fun K hK => ?_) AllReadyH.nil)
  ·go_simp
   refine (pnumber_any pa pw pb v b s q0 ST_q0.out.rd).mono ?_
   rintro e w1 ⟨x0, s1, hx, rfl, hr, hb⟩
   have ST_w1 := Lib.hid (ST_q0.out.next hr hb)
   have E0 := Lib.hid hx
   have LQ_w1 : Hid (lo ≤ w1.heap.size) := Lib.hid (Nat.le_trans LQ_q0.out hb.size)
   clear hr hb hx ST_q0 LQ_q0 
   try go_wp2_with fail
   refine hK.out _ _ ?_ fun hHeld => ?_;exact ST_w1.out.x4;clear hK K;try simp only [zn, Act.put]
   refine wpAnyH_ready (rs := [3, 21]) (by kernel_rfl) (by simp) ?_
   refine AllReadyH.cons rfl (fun K hK => ?_) (AllReadyH.cons rfl (fun K hK => ?_) AllReadyH.nil)
   ·go_simp
    refine (pnumber_any pa pw pb v b s1 w1 ST_w1.out.rd).mono ?_
    rintro e w2 ⟨x1, s2, hx, rfl, hr, hb⟩
    have ST_w2 := Lib.hid (ST_w1.out.next hr hb)
    have E1 := Lib.hid hx
    have LQ_w2 : Hid (lo ≤ w2.heap.size) := Lib.hid (Nat.le_trans LQ_w1.out hb.size)
    clear hr hb hx ST_w1 LQ_w1 
    try go_wp2_with fail
    refine hK.out _ _ ?_ fun hHeld => ?_;exact ST_w2.out.x4;clear hK K;try simp only [zn, Act.put]
    refine wpAnyH_ready (rs := [7, 21]) (by kernel_rfl) (by simp) ?_
    refine AllReadyH.cons rfl (fun K hK => ?_) (AllReadyH.cons rfl (fun K hK => ?_) AllReadyH.nil)
    ·go_simp
     refine (plist_section 16 pa pw pb v b s2 w2 ST_w2.out.rd (by decide) (by decide)).mono ?_
     rintro e w3 ⟨LS, s3, hx, ⟨AS, nS, cS, rfl, hn, hl, ho⟩, hr, hb⟩
     have ST_w3 := Lib.hid (ST_w2.out.next hr hb)
     have E2 := Lib.hid hx
     have LQ_w3 : Hid (lo ≤ w3.heap.size) := Lib.hid (Nat.le_trans LQ_w2.out hb.size)
     have OS_w3 : Hid (SectsOwn w3 lo (.slice AS nS cS) LS) := Lib.hid (sects_mono ho LQ_w2.out)
     clear ho hn hl
     clear hr hb hx ST_w2 LQ_w2 
     try go_wp2_with fail
     refine hK.out _ _ ?_ fun hHeld => ?_;exact ST_w3.out.x4;clear hK K;try simp only [zn, Act.put]
     refine wpAnyH_ready (rs := [11, 21]) (by kernel_rfl) (by simp) ?_
     refine AllReadyH.cons rfl (fun K hK => ?_) (AllReadyH.cons rfl (fun K hK => ?_) AllReadyH.nil)
     ·go_simp
      refine (plist_point 6 pa pw pb v b s3 w3 ST_w3.out.rd (by decide) (by decide)).mono ?_
      rintro e w4 ⟨LP, s4, hx, ⟨AP, nP, cP, rfl, hn, hl, ho⟩, hr, hb⟩
      have ST_w4 := Lib.hid (ST_w3.out.next hr hb)
      have E3 := Lib.hid hx
      have LQ_w4 : Hid (lo ≤ w4.heap.size) := Lib.hid (Nat.le_trans LQ_w3.out hb.size)
      have OS_w4 : Hid (SectsOwn w4 lo (.slice AS nS cS) LS) := Lib.hid (secs_x OS_w3.out (by have := LO.out; omega) (by have := LO.out; omega) hb)
      have OP_w4 : Hid (PointsOwn w4 lo (.slice AP nP cP) LP) := Lib.hid (ho.mono LQ_w3.out)
      clear ho hn hl
      clear hr hb hx ST_w3 LQ_w3 OS_w3
      try go_wp2_with fail
      refine hK.out _ _ ?_ fun hHeld => ?_;exact ST_w4.out.x4;clear hK K;try simp only [zn, Act.put]
      refine wpAnyH_ready (rs := [15, 21]) (by kernel_rfl) (by simp) ?_
      refine AllReadyH.cons rfl (fun K hK => ?_) (AllReadyH.cons rfl (fun K hK => ?_) AllReadyH.nil)
      ·go_simp
       refine (plist_signal 10 pa pw pb v b s4 w4 ST_w4.out.rd (by decide) (by decide)).mono ?_
       rintro e w5 ⟨LG, s5, hx, ⟨AG, nG, cG, rfl, hn, hl, ho⟩, hr, hb⟩
       have ST_w5 := Lib.hid (ST_w4.out.next hr hb)
       have E4 := Lib.hid hx
       have LQ_w5 : Hid (lo ≤ w5.heap.size) := Lib.hid (Nat.le_trans LQ_w4.out hb.size)
       have OS_w5 : Hid (SectsOwn w5 lo (.slice AS nS cS) LS) := Lib.hid (secs_x OS_w4.out (by have := LO.out; omega) (by have := LO.out; omega) hb)
       have OP_w5 : Hid (PointsOwn w5 lo (.slice AP nP cP) LP) := Lib.hid (flat_x (T := 57) (sz := 2) (R := JoinR) (pa := pa) (pw := pw) (lo := lo) joinF OP_w4.out (by have := LO.out; omega) (by have := LO.out; omega) hb)
       have OG_w5 : Hid (SigsOwn w5 lo (.slice AG nG cG) LG) := Lib.hid (ho.mono LQ_w4.out)
       clear ho hn hl
       clear hr hb hx ST_w4 LQ_w4 OS_w4 OP_w4
       try go_wp2_with fail
       refine hK.out _ _ ?_ fun hHeld => ?_;exact ST_w5.out.x4;clear hK K;try simp only [zn, Act.put]
       refine wpAnyH_ready (rs := [19, 21]) (by kernel_rfl) (by simp) ?_
       refine AllReadyH.cons rfl (fun K hK => ?_) (AllReadyH.cons rfl (fun K hK => ?_) AllReadyH.nil)
       ·go_simp
        refine (plist_route 16 pa pw pb v b s5 w5 ST_w5.out.rd (by decide) (by decide)).mono ?_
        rintro e w6 ⟨LR, s6, hx, ⟨AR, nR, cR, rfl, hn, hl, ho⟩, hr, hb⟩
        have ST_w6 := Lib.hid (ST_w5.out.next hr hb)
        have E5 := Lib.hid hx
        have LQ_w6 : Hid (lo ≤ w6.heap.size) := Lib.hid (Nat.le_trans LQ_w5.out hb.size)
        have OS_w6 : Hid (SectsOwn w6 lo (.slice AS nS cS) LS) := Lib.hid (secs_x OS_w5.out (by have := LO.out; omega) (by have := LO.out; omega) hb)
        have OP_w6 : Hid (PointsOwn w6 lo (.slice AP nP cP) LP) := Lib.hid (flat_x (T := 57) (sz := 2) (R := JoinR) (pa := pa) (pw := pw) (lo := lo) joinF OP_w5.out (by have := LO.out; omega) (by have := LO.out; omega) hb)
        have OG_w6 : Hid (SigsOwn w6 lo (.slice AG nG cG) LG) := Lib.hid (flat_x (T := 59) (sz := 3) (R := SigR) (pa := pa) (pw := pw) (lo := lo) sigF OG_w5.out (by have := LO.out; omega) (by have := LO.out; omega) hb)
        have OR_w6 : Hid (RoutesOwn w6 lo (.slice AR nR cR) LR) := Lib.hid (routes_mono ho LQ_w5.out)
        clear ho hn hl
        clear hr hb hx ST_w5 LQ_w5 OS_w5 OP_w5 OG_w5
        try go_wp2_with fail
        refine hK.out _ _ ?_ fun hHeld => ?_;exact ST_w6.out.x4;clear hK K;try simp only [zn, Act.put]
        refine tk 20 hHeld ?_
        refine tkr 21 (fun K hK => ?_)
        go_simp
        have tb := below_new w6 (.cells #[.int .i64 0, .int .i64 0, .slice none 0 0, .slice none 0 0, .slice none 0 0, .slice none 0 0] 28)
        have tT := ST_w6.out.below tb
        have tQ := Nat.le_trans LQ_w6.out tb.size
        have tS := OS_w6.out.below (secO_ lo) tb
        have tP := OP_w6.out.below joinR tb
        have tG := OG_w6.out.below sigR tb
        have tR := OR_w6.out.below (routeO lo) tb
        have T5 := heap_alloc_self w6 (.cells #[.int .i64 0, .int .i64 0, .slice none 0 0, .slice none 0 0, .slice none 0 0, .slice none 0 0] 28)
        refine hK.out _ _ ?_ fun hHeld => ?_;exact tT.x4;clear hK K;try simp only [zn, Act.put]
        generalize w6.alloc (.cells #[.int .i64 0, .int .i64 0, .slice none 0 0, .slice none 0 0, .slice none 0 0, .slice none 0 0] 28) = w6a at tT tQ tS tP tG tR T5 hHeld ⊢
        obtain ⟨p5, hp5⟩ : ∃ n, n = w6.heap.size := ⟨_, rfl⟩
        have P5 : Hid (lo ≤ p5) := Lib.hid (by rw [hp5]; exact LQ_w6.out)
        rw [← hp5] at T5 ⊢
        have ST_w6a := Lib.hid tT
        have LQ_w6a := Lib.hid tQ
        have OS_w6a : Hid (SectsOwn w6a lo (.slice AS nS cS) LS) := Lib.hid tS
        have OP_w6a : Hid (PointsOwn w6a lo (.slice AP nP cP) LP) := Lib.hid tP
        have OG_w6a : Hid (SigsOwn w6a lo (.slice AG nG cG) LG) := Lib.hid tG
        have OR_w6a : Hid (RoutesOwn w6a lo (.slice AR nR cR) LR) := Lib.hid tR
        have X5_w6a := Lib.hid T5
        clear tb tT tQ tS tP tG tR T5 hp5 ST_w6 LQ_w6 OS_w6 OP_w6 OG_w6 OR_w6
        refine tkr 22 (fun K hK => ?_)
        rw [if_pos (by rfl)]
        refine wp_store_rowP 28 (.tmp 5) (.tmp 28) rfl p5 rfl (c' := #[.int .i64 x0, .int .i64 x1, .slice AS nS cS, .slice AP nP cP, .slice AG nG cG, .slice AR nR cR]) rfl X5_w6a.out infoPlanA rfl (by simp [Value.oneCell']) ?_
        have TB : Below p5 w6a (w6a.setRow p5 #[.int .i64 x0, .int .i64 x1, .slice AS nS cS, .slice AP nP cP, .slice AG nG cG, .slice AR nR cR]) := below_setRow (Below.refl _ _) (Nat.le_refl _) _
        have hg := grownBy_setRow w6a p5 #[.int .i64 x0, .int .i64 x1, .slice AS nS cS, .slice AP nP cP, .slice AG nG cG, .slice AR nR cR]
        have hq := LO.out
        have hp := P5.out
        have SS : PrsSt w (w6a.setRow p5 #[.int .i64 x0, .int .i64 x1, .slice AS nS cS, .slice AP nP cP, .slice AG nG cG, .slice AR nR cR]) pa pw pb p2 p4 v b s6 := ⟨ST_w6a.out.rd.setRow p5 _ (by omega) (by omega) (by omega), (TB.block _ (by omega)).trans ST_w6a.out.x2, (TB.block _ (by omega)).trans ST_w6a.out.x4, ST_w6a.out.b.trans (TB.mono (by have := ST_w6a.out.lt; omega)), ST_w6a.out.lt⟩
        have PO : PlOwn (w6a.setRow p5 #[.int .i64 x0, .int .i64 x1, .slice AS nS cS, .slice AP nP cP, .slice AG nG cG, .slice AR nR cR]) (p4 + 1) (.slice AS nS cS) (.slice AP nP cP) (.slice AG nG cG) (.slice AR nR cR) ⟨x0, x1, LS, LP, LG, LR⟩ := by
         have h0 : PlOwn w6a lo (.slice AS nS cS) (.slice AP nP cP) (.slice AG nG cG) (.slice AR nR cR) ⟨x0, x1, LS, LP, LG, LR⟩ := ⟨OS_w6a.out, OP_w6a.out, OG_w6a.out, OR_w6a.out⟩
         have h1 := plOwn_fz h0 hg ⟨_, X5_w6a.out⟩
         rw [LO.out.1] at h1
         exact h1
        have X6 := setRow_heap w6a p5 _ #[.int .i64 x0, .int .i64 x1, .slice AS nS cS, .slice AP nP cP, .slice AG nG cG, .slice AR nR cR] 28 _ X5_w6a.out
        have EE := plan_step E0.out E1.out E2.out E3.out E4.out E5.out
        refine hK.out _ _ ?_ fun hHeld => ?_;exact SS.x4;clear hK K;try simp only [zn, Act.put]
        refine wpAnyH_done (by kernel_rfl) ?_ _
        go_wp2_with fail
        go_meet
        exact ⟨p5, AS, nS, cS, AP, nP, cP, AG, nG, cG, AR, nR, cR, ⟨x0, x1, LS, LP, LG, LR⟩, s6, rfl, (by rw [← HS0.out]; exact EE), SS, X6, by omega, PO⟩
       ·go_simp
        have tb := below_new w5 (.cells #[.int .i64 0, .int .i64 0, .slice none 0 0, .slice none 0 0, .slice none 0 0, .slice none 0 0] 28)
        have tT := ST_w5.out.below tb
        have tQ := Nat.le_trans LQ_w5.out tb.size
        have tS := OS_w5.out.below (secO_ lo) tb
        have tP := OP_w5.out.below joinR tb
        have tG := OG_w5.out.below sigR tb
        have T5 := heap_alloc_self w5 (.cells #[.int .i64 0, .int .i64 0, .slice none 0 0, .slice none 0 0, .slice none 0 0, .slice none 0 0] 28)
        refine hK.out _ _ ?_ fun hHeld => ?_;exact tT.x4;clear hK K;try simp only [zn, Act.put]
        generalize w5.alloc (.cells #[.int .i64 0, .int .i64 0, .slice none 0 0, .slice none 0 0, .slice none 0 0, .slice none 0 0] 28) = w5a at tT tQ tS tP tG T5 hHeld ⊢
        obtain ⟨p5, hp5⟩ : ∃ n, n = w5.heap.size := ⟨_, rfl⟩
        have P5 : Hid (lo ≤ p5) := Lib.hid (by rw [hp5]; exact LQ_w5.out)
        rw [← hp5] at T5 ⊢
        have ST_w5a := Lib.hid tT
        have LQ_w5a := Lib.hid tQ
        have OS_w5a : Hid (SectsOwn w5a lo (.slice AS nS cS) LS) := Lib.hid tS
        have OP_w5a : Hid (PointsOwn w5a lo (.slice AP nP cP) LP) := Lib.hid tP
        have OG_w5a : Hid (SigsOwn w5a lo (.slice AG nG cG) LG) := Lib.hid tG
        have X5_w5a := Lib.hid T5
        clear tb tT tQ tS tP tG T5 hp5 ST_w5 LQ_w5 OS_w5 OP_w5 OG_w5
        refine tkr 19 (fun K hK => ?_)
        go_simp
        refine (plist_route 16 pa pw pb v b s5 w5a ST_w5a.out.rd (by decide) (by decide)).mono ?_
        rintro e y6 ⟨LR, s6, hx, ⟨AR, nR, cR, rfl, hn, hl, ho⟩, hr, hb⟩
        have ST_y6 := Lib.hid (ST_w5a.out.next hr hb)
        have E5 := Lib.hid hx
        have LQ_y6 : Hid (lo ≤ y6.heap.size) := Lib.hid (Nat.le_trans LQ_w5a.out hb.size)
        have OS_y6 : Hid (SectsOwn y6 lo (.slice AS nS cS) LS) := Lib.hid (secs_x OS_w5a.out (by have := LO.out; omega) (by have := LO.out; omega) hb)
        have OP_y6 : Hid (PointsOwn y6 lo (.slice AP nP cP) LP) := Lib.hid (flat_x (T := 57) (sz := 2) (R := JoinR) (pa := pa) (pw := pw) (lo := lo) joinF OP_w5a.out (by have := LO.out; omega) (by have := LO.out; omega) hb)
        have OG_y6 : Hid (SigsOwn y6 lo (.slice AG nG cG) LG) := Lib.hid (flat_x (T := 59) (sz := 3) (R := SigR) (pa := pa) (pw := pw) (lo := lo) sigF OG_w5a.out (by have := LO.out; omega) (by have := LO.out; omega) hb)
        have OR_y6 : Hid (RoutesOwn y6 lo (.slice AR nR cR) LR) := Lib.hid (routes_mono ho LQ_w5a.out)
        clear ho hn hl
        have X5_y6 := Lib.hid ((hb.block p5 (heap_lt X5_w5a.out) (by have := LO.out; have := P5.out; omega) (by have := LO.out; have := P5.out; omega)).trans X5_w5a.out)
        clear hr hb hx ST_w5a LQ_w5a OS_w5a OP_w5a OG_w5a X5_w5a
        try go_wp2_with fail
        refine hK.out _ _ ?_ fun hHeld => ?_;exact ST_y6.out.x4;clear hK K;try simp only [zn, Act.put]
        refine tk 20 hHeld ?_
        refine tkr 22 (fun K hK => ?_)
        rw [if_pos (by rfl)]
        refine wp_store_rowP 28 (.tmp 5) (.tmp 28) rfl p5 rfl (c' := #[.int .i64 x0, .int .i64 x1, .slice AS nS cS, .slice AP nP cP, .slice AG nG cG, .slice AR nR cR]) rfl X5_y6.out infoPlanA rfl (by simp [Value.oneCell']) ?_
        have TB : Below p5 y6 (y6.setRow p5 #[.int .i64 x0, .int .i64 x1, .slice AS nS cS, .slice AP nP cP, .slice AG nG cG, .slice AR nR cR]) := below_setRow (Below.refl _ _) (Nat.le_refl _) _
        have hg := grownBy_setRow y6 p5 #[.int .i64 x0, .int .i64 x1, .slice AS nS cS, .slice AP nP cP, .slice AG nG cG, .slice AR nR cR]
        have hq := LO.out
        have hp := P5.out
        have SS : PrsSt w (y6.setRow p5 #[.int .i64 x0, .int .i64 x1, .slice AS nS cS, .slice AP nP cP, .slice AG nG cG, .slice AR nR cR]) pa pw pb p2 p4 v b s6 := ⟨ST_y6.out.rd.setRow p5 _ (by omega) (by omega) (by omega), (TB.block _ (by omega)).trans ST_y6.out.x2, (TB.block _ (by omega)).trans ST_y6.out.x4, ST_y6.out.b.trans (TB.mono (by have := ST_y6.out.lt; omega)), ST_y6.out.lt⟩
        have PO : PlOwn (y6.setRow p5 #[.int .i64 x0, .int .i64 x1, .slice AS nS cS, .slice AP nP cP, .slice AG nG cG, .slice AR nR cR]) (p4 + 1) (.slice AS nS cS) (.slice AP nP cP) (.slice AG nG cG) (.slice AR nR cR) ⟨x0, x1, LS, LP, LG, LR⟩ := by
         have h0 : PlOwn y6 lo (.slice AS nS cS) (.slice AP nP cP) (.slice AG nG cG) (.slice AR nR cR) ⟨x0, x1, LS, LP, LG, LR⟩ := ⟨OS_y6.out, OP_y6.out, OG_y6.out, OR_y6.out⟩
         have h1 := plOwn_fz h0 hg ⟨_, X5_y6.out⟩
         rw [LO.out.1] at h1
         exact h1
        have X6 := setRow_heap y6 p5 _ #[.int .i64 x0, .int .i64 x1, .slice AS nS cS, .slice AP nP cP, .slice AG nG cG, .slice AR nR cR] 28 _ X5_y6.out
        have EE := plan_step E0.out E1.out E2.out E3.out E4.out E5.out
        refine hK.out _ _ ?_ fun hHeld => ?_;exact SS.x4;clear hK K;try simp only [zn, Act.put]
        refine wpAnyH_done (by kernel_rfl) ?_ _
        go_wp2_with fail
        go_meet
        exact ⟨p5, AS, nS, cS, AP, nP, cP, AG, nG, cG, AR, nR, cR, ⟨x0, x1, LS, LP, LG, LR⟩, s6, rfl, (by rw [← HS0.out]; exact EE), SS, X6, by omega, PO⟩
      ·go_simp
       have tb := below_new w4 (.cells #[.int .i64 0, .int .i64 0, .slice none 0 0, .slice none 0 0, .slice none 0 0, .slice none 0 0] 28)
       have tT := ST_w4.out.below tb
       have tQ := Nat.le_trans LQ_w4.out tb.size
       have tS := OS_w4.out.below (secO_ lo) tb
       have tP := OP_w4.out.below joinR tb
       have T5 := heap_alloc_self w4 (.cells #[.int .i64 0, .int .i64 0, .slice none 0 0, .slice none 0 0, .slice none 0 0, .slice none 0 0] 28)
       refine hK.out _ _ ?_ fun hHeld => ?_;exact tT.x4;clear hK K;try simp only [zn, Act.put]
       generalize w4.alloc (.cells #[.int .i64 0, .int .i64 0, .slice none 0 0, .slice none 0 0, .slice none 0 0, .slice none 0 0] 28) = w4a at tT tQ tS tP T5 hHeld ⊢
       obtain ⟨p5, hp5⟩ : ∃ n, n = w4.heap.size := ⟨_, rfl⟩
       have P5 : Hid (lo ≤ p5) := Lib.hid (by rw [hp5]; exact LQ_w4.out)
       rw [← hp5] at T5 ⊢
       have ST_w4a := Lib.hid tT
       have LQ_w4a := Lib.hid tQ
       have OS_w4a : Hid (SectsOwn w4a lo (.slice AS nS cS) LS) := Lib.hid tS
       have OP_w4a : Hid (PointsOwn w4a lo (.slice AP nP cP) LP) := Lib.hid tP
       have X5_w4a := Lib.hid T5
       clear tb tT tQ tS tP T5 hp5 ST_w4 LQ_w4 OS_w4 OP_w4
       refine tkr 15 (fun K hK => ?_)
       go_simp
       refine (plist_signal 10 pa pw pb v b s4 w4a ST_w4a.out.rd (by decide) (by decide)).mono ?_
       rintro e y5 ⟨LG, s5, hx, ⟨AG, nG, cG, rfl, hn, hl, ho⟩, hr, hb⟩
       have ST_y5 := Lib.hid (ST_w4a.out.next hr hb)
       have E4 := Lib.hid hx
       have LQ_y5 : Hid (lo ≤ y5.heap.size) := Lib.hid (Nat.le_trans LQ_w4a.out hb.size)
       have OS_y5 : Hid (SectsOwn y5 lo (.slice AS nS cS) LS) := Lib.hid (secs_x OS_w4a.out (by have := LO.out; omega) (by have := LO.out; omega) hb)
       have OP_y5 : Hid (PointsOwn y5 lo (.slice AP nP cP) LP) := Lib.hid (flat_x (T := 57) (sz := 2) (R := JoinR) (pa := pa) (pw := pw) (lo := lo) joinF OP_w4a.out (by have := LO.out; omega) (by have := LO.out; omega) hb)
       have OG_y5 : Hid (SigsOwn y5 lo (.slice AG nG cG) LG) := Lib.hid (ho.mono LQ_w4a.out)
       clear ho hn hl
       have X5_y5 := Lib.hid ((hb.block p5 (heap_lt X5_w4a.out) (by have := LO.out; have := P5.out; omega) (by have := LO.out; have := P5.out; omega)).trans X5_w4a.out)
       clear hr hb hx ST_w4a LQ_w4a OS_w4a OP_w4a X5_w4a
       try go_wp2_with fail
       refine hK.out _ _ ?_ fun hHeld => ?_;exact ST_y5.out.x4;clear hK K;try simp only [zn, Act.put]
       refine tkr 19 (fun K hK => ?_)
       go_simp
       refine (plist_route 16 pa pw pb v b s5 y5 ST_y5.out.rd (by decide) (by decide)).mono ?_
       rintro e y6 ⟨LR, s6, hx, ⟨AR, nR, cR, rfl, hn, hl, ho⟩, hr, hb⟩
       have ST_y6 := Lib.hid (ST_y5.out.next hr hb)
       have E5 := Lib.hid hx
       have LQ_y6 : Hid (lo ≤ y6.heap.size) := Lib.hid (Nat.le_trans LQ_y5.out hb.size)
       have OS_y6 : Hid (SectsOwn y6 lo (.slice AS nS cS) LS) := Lib.hid (secs_x OS_y5.out (by have := LO.out; omega) (by have := LO.out; omega) hb)
       have OP_y6 : Hid (PointsOwn y6 lo (.slice AP nP cP) LP) := Lib.hid (flat_x (T := 57) (sz := 2) (R := JoinR) (pa := pa) (pw := pw) (lo := lo) joinF OP_y5.out (by have := LO.out; omega) (by have := LO.out; omega) hb)
       have OG_y6 : Hid (SigsOwn y6 lo (.slice AG nG cG) LG) := Lib.hid (flat_x (T := 59) (sz := 3) (R := SigR) (pa := pa) (pw := pw) (lo := lo) sigF OG_y5.out (by have := LO.out; omega) (by have := LO.out; omega) hb)
       have OR_y6 : Hid (RoutesOwn y6 lo (.slice AR nR cR) LR) := Lib.hid (routes_mono ho LQ_y5.out)
       clear ho hn hl
       have X5_y6 := Lib.hid ((hb.block p5 (heap_lt X5_y5.out) (by have := LO.out; have := P5.out; omega) (by have := LO.out; have := P5.out; omega)).trans X5_y5.out)
       clear hr hb hx ST_y5 LQ_y5 OS_y5 OP_y5 OG_y5 X5_y5
       try go_wp2_with fail
       refine hK.out _ _ ?_ fun hHeld => ?_;exact ST_y6.out.x4;clear hK K;try simp only [zn, Act.put]
       refine tk 20 hHeld ?_
       refine tkr 22 (fun K hK => ?_)
       rw [if_pos (by rfl)]
       refine wp_store_rowP 28 (.tmp 5) (.tmp 28) rfl p5 rfl (c' := #[.int .i64 x0, .int .i64 x1, .slice AS nS cS, .slice AP nP cP, .slice AG nG cG, .slice AR nR cR]) rfl X5_y6.out infoPlanA rfl (by simp [Value.oneCell']) ?_
       have TB : Below p5 y6 (y6.setRow p5 #[.int .i64 x0, .int .i64 x1, .slice AS nS cS, .slice AP nP cP, .slice AG nG cG, .slice AR nR cR]) := below_setRow (Below.refl _ _) (Nat.le_refl _) _
       have hg := grownBy_setRow y6 p5 #[.int .i64 x0, .int .i64 x1, .slice AS nS cS, .slice AP nP cP, .slice AG nG cG, .slice AR nR cR]
       have hq := LO.out
       have hp := P5.out
       have SS : PrsSt w (y6.setRow p5 #[.int .i64 x0, .int .i64 x1, .slice AS nS cS, .slice AP nP cP, .slice AG nG cG, .slice AR nR cR]) pa pw pb p2 p4 v b s6 := ⟨ST_y6.out.rd.setRow p5 _ (by omega) (by omega) (by omega), (TB.block _ (by omega)).trans ST_y6.out.x2, (TB.block _ (by omega)).trans ST_y6.out.x4, ST_y6.out.b.trans (TB.mono (by have := ST_y6.out.lt; omega)), ST_y6.out.lt⟩
       have PO : PlOwn (y6.setRow p5 #[.int .i64 x0, .int .i64 x1, .slice AS nS cS, .slice AP nP cP, .slice AG nG cG, .slice AR nR cR]) (p4 + 1) (.slice AS nS cS) (.slice AP nP cP) (.slice AG nG cG) (.slice AR nR cR) ⟨x0, x1, LS, LP, LG, LR⟩ := by
        have h0 : PlOwn y6 lo (.slice AS nS cS) (.slice AP nP cP) (.slice AG nG cG) (.slice AR nR cR) ⟨x0, x1, LS, LP, LG, LR⟩ := ⟨OS_y6.out, OP_y6.out, OG_y6.out, OR_y6.out⟩
        have h1 := plOwn_fz h0 hg ⟨_, X5_y6.out⟩
        rw [LO.out.1] at h1
        exact h1
       have X6 := setRow_heap y6 p5 _ #[.int .i64 x0, .int .i64 x1, .slice AS nS cS, .slice AP nP cP, .slice AG nG cG, .slice AR nR cR] 28 _ X5_y6.out
       have EE := plan_step E0.out E1.out E2.out E3.out E4.out E5.out
       refine hK.out _ _ ?_ fun hHeld => ?_;exact SS.x4;clear hK K;try simp only [zn, Act.put]
       refine wpAnyH_done (by kernel_rfl) ?_ _
       go_wp2_with fail
       go_meet
       exact ⟨p5, AS, nS, cS, AP, nP, cP, AG, nG, cG, AR, nR, cR, ⟨x0, x1, LS, LP, LG, LR⟩, s6, rfl, (by rw [← HS0.out]; exact EE), SS, X6, by omega, PO⟩
     ·go_simp
      have tb := below_new w3 (.cells #[.int .i64 0, .int .i64 0, .slice none 0 0, .slice none 0 0, .slice none 0 0, .slice none 0 0] 28)
      have tT := ST_w3.out.below tb
      have tQ := Nat.le_trans LQ_w3.out tb.size
      have tS := OS_w3.out.below (secO_ lo) tb
      have T5 := heap_alloc_self w3 (.cells #[.int .i64 0, .int .i64 0, .slice none 0 0, .slice none 0 0, .slice none 0 0, .slice none 0 0] 28)
      refine hK.out _ _ ?_ fun hHeld => ?_;exact tT.x4;clear hK K;try simp only [zn, Act.put]
      generalize w3.alloc (.cells #[.int .i64 0, .int .i64 0, .slice none 0 0, .slice none 0 0, .slice none 0 0, .slice none 0 0] 28) = w3a at tT tQ tS T5 hHeld ⊢
      obtain ⟨p5, hp5⟩ : ∃ n, n = w3.heap.size := ⟨_, rfl⟩
      have P5 : Hid (lo ≤ p5) := Lib.hid (by rw [hp5]; exact LQ_w3.out)
      rw [← hp5] at T5 ⊢
      have ST_w3a := Lib.hid tT
      have LQ_w3a := Lib.hid tQ
      have OS_w3a : Hid (SectsOwn w3a lo (.slice AS nS cS) LS) := Lib.hid tS
      have X5_w3a := Lib.hid T5
      clear tb tT tQ tS T5 hp5 ST_w3 LQ_w3 OS_w3
      refine tkr 11 (fun K hK => ?_)
      go_simp
      refine (plist_point 6 pa pw pb v b s3 w3a ST_w3a.out.rd (by decide) (by decide)).mono ?_
      rintro e y4 ⟨LP, s4, hx, ⟨AP, nP, cP, rfl, hn, hl, ho⟩, hr, hb⟩
      have ST_y4 := Lib.hid (ST_w3a.out.next hr hb)
      have E3 := Lib.hid hx
      have LQ_y4 : Hid (lo ≤ y4.heap.size) := Lib.hid (Nat.le_trans LQ_w3a.out hb.size)
      have OS_y4 : Hid (SectsOwn y4 lo (.slice AS nS cS) LS) := Lib.hid (secs_x OS_w3a.out (by have := LO.out; omega) (by have := LO.out; omega) hb)
      have OP_y4 : Hid (PointsOwn y4 lo (.slice AP nP cP) LP) := Lib.hid (ho.mono LQ_w3a.out)
      clear ho hn hl
      have X5_y4 := Lib.hid ((hb.block p5 (heap_lt X5_w3a.out) (by have := LO.out; have := P5.out; omega) (by have := LO.out; have := P5.out; omega)).trans X5_w3a.out)
      clear hr hb hx ST_w3a LQ_w3a OS_w3a X5_w3a
      try go_wp2_with fail
      refine hK.out _ _ ?_ fun hHeld => ?_;exact ST_y4.out.x4;clear hK K;try simp only [zn, Act.put]
      refine tkr 15 (fun K hK => ?_)
      go_simp
      refine (plist_signal 10 pa pw pb v b s4 y4 ST_y4.out.rd (by decide) (by decide)).mono ?_
      rintro e y5 ⟨LG, s5, hx, ⟨AG, nG, cG, rfl, hn, hl, ho⟩, hr, hb⟩
      have ST_y5 := Lib.hid (ST_y4.out.next hr hb)
      have E4 := Lib.hid hx
      have LQ_y5 : Hid (lo ≤ y5.heap.size) := Lib.hid (Nat.le_trans LQ_y4.out hb.size)
      have OS_y5 : Hid (SectsOwn y5 lo (.slice AS nS cS) LS) := Lib.hid (secs_x OS_y4.out (by have := LO.out; omega) (by have := LO.out; omega) hb)
      have OP_y5 : Hid (PointsOwn y5 lo (.slice AP nP cP) LP) := Lib.hid (flat_x (T := 57) (sz := 2) (R := JoinR) (pa := pa) (pw := pw) (lo := lo) joinF OP_y4.out (by have := LO.out; omega) (by have := LO.out; omega) hb)
      have OG_y5 : Hid (SigsOwn y5 lo (.slice AG nG cG) LG) := Lib.hid (ho.mono LQ_y4.out)
      clear ho hn hl
      have X5_y5 := Lib.hid ((hb.block p5 (heap_lt X5_y4.out) (by have := LO.out; have := P5.out; omega) (by have := LO.out; have := P5.out; omega)).trans X5_y4.out)
      clear hr hb hx ST_y4 LQ_y4 OS_y4 OP_y4 X5_y4
      try go_wp2_with fail
      refine hK.out _ _ ?_ fun hHeld => ?_;exact ST_y5.out.x4;clear hK K;try simp only [zn, Act.put]
      refine tkr 19 (fun K hK => ?_)
      go_simp
      refine (plist_route 16 pa pw pb v b s5 y5 ST_y5.out.rd (by decide) (by decide)).mono ?_
      rintro e y6 ⟨LR, s6, hx, ⟨AR, nR, cR, rfl, hn, hl, ho⟩, hr, hb⟩
      have ST_y6 := Lib.hid (ST_y5.out.next hr hb)
      have E5 := Lib.hid hx
      have LQ_y6 : Hid (lo ≤ y6.heap.size) := Lib.hid (Nat.le_trans LQ_y5.out hb.size)
      have OS_y6 : Hid (SectsOwn y6 lo (.slice AS nS cS) LS) := Lib.hid (secs_x OS_y5.out (by have := LO.out; omega) (by have := LO.out; omega) hb)
      have OP_y6 : Hid (PointsOwn y6 lo (.slice AP nP cP) LP) := Lib.hid (flat_x (T := 57) (sz := 2) (R := JoinR) (pa := pa) (pw := pw) (lo := lo) joinF OP_y5.out (by have := LO.out; omega) (by have := LO.out; omega) hb)
      have OG_y6 : Hid (SigsOwn y6 lo (.slice AG nG cG) LG) := Lib.hid (flat_x (T := 59) (sz := 3) (R := SigR) (pa := pa) (pw := pw) (lo := lo) sigF OG_y5.out (by have := LO.out; omega) (by have := LO.out; omega) hb)
      have OR_y6 : Hid (RoutesOwn y6 lo (.slice AR nR cR) LR) := Lib.hid (routes_mono ho LQ_y5.out)
      clear ho hn hl
      have X5_y6 := Lib.hid ((hb.block p5 (heap_lt X5_y5.out) (by have := LO.out; have := P5.out; omega) (by have := LO.out; have := P5.out; omega)).trans X5_y5.out)
      clear hr hb hx ST_y5 LQ_y5 OS_y5 OP_y5 OG_y5 X5_y5
      try go_wp2_with fail
      refine hK.out _ _ ?_ fun hHeld => ?_;exact ST_y6.out.x4;clear hK K;try simp only [zn, Act.put]
      refine tk 20 hHeld ?_
      refine tkr 22 (fun K hK => ?_)
      rw [if_pos (by rfl)]
      refine wp_store_rowP 28 (.tmp 5) (.tmp 28) rfl p5 rfl (c' := #[.int .i64 x0, .int .i64 x1, .slice AS nS cS, .slice AP nP cP, .slice AG nG cG, .slice AR nR cR]) rfl X5_y6.out infoPlanA rfl (by simp [Value.oneCell']) ?_
      have TB : Below p5 y6 (y6.setRow p5 #[.int .i64 x0, .int .i64 x1, .slice AS nS cS, .slice AP nP cP, .slice AG nG cG, .slice AR nR cR]) := below_setRow (Below.refl _ _) (Nat.le_refl _) _
      have hg := grownBy_setRow y6 p5 #[.int .i64 x0, .int .i64 x1, .slice AS nS cS, .slice AP nP cP, .slice AG nG cG, .slice AR nR cR]
      have hq := LO.out
      have hp := P5.out
      have SS : PrsSt w (y6.setRow p5 #[.int .i64 x0, .int .i64 x1, .slice AS nS cS, .slice AP nP cP, .slice AG nG cG, .slice AR nR cR]) pa pw pb p2 p4 v b s6 := ⟨ST_y6.out.rd.setRow p5 _ (by omega) (by omega) (by omega), (TB.block _ (by omega)).trans ST_y6.out.x2, (TB.block _ (by omega)).trans ST_y6.out.x4, ST_y6.out.b.trans (TB.mono (by have := ST_y6.out.lt; omega)), ST_y6.out.lt⟩
      have PO : PlOwn (y6.setRow p5 #[.int .i64 x0, .int .i64 x1, .slice AS nS cS, .slice AP nP cP, .slice AG nG cG, .slice AR nR cR]) (p4 + 1) (.slice AS nS cS) (.slice AP nP cP) (.slice AG nG cG) (.slice AR nR cR) ⟨x0, x1, LS, LP, LG, LR⟩ := by
       have h0 : PlOwn y6 lo (.slice AS nS cS) (.slice AP nP cP) (.slice AG nG cG) (.slice AR nR cR) ⟨x0, x1, LS, LP, LG, LR⟩ := ⟨OS_y6.out, OP_y6.out, OG_y6.out, OR_y6.out⟩
       have h1 := plOwn_fz h0 hg ⟨_, X5_y6.out⟩
       rw [LO.out.1] at h1
       exact h1
      have X6 := setRow_heap y6 p5 _ #[.int .i64 x0, .int .i64 x1, .slice AS nS cS, .slice AP nP cP, .slice AG nG cG, .slice AR nR cR] 28 _ X5_y6.out
      have EE := plan_step E0.out E1.out E2.out E3.out E4.out E5.out
      refine hK.out _ _ ?_ fun hHeld => ?_;exact SS.x4;clear hK K;try simp only [zn, Act.put]
      refine wpAnyH_done (by kernel_rfl) ?_ _
      go_wp2_with fail
      go_meet
      exact ⟨p5, AS, nS, cS, AP, nP, cP, AG, nG, cG, AR, nR, cR, ⟨x0, x1, LS, LP, LG, LR⟩, s6, rfl, (by rw [← HS0.out]; exact EE), SS, X6, by omega, PO⟩
    ·go_simp
     have tb := below_new w2 (.cells #[.int .i64 0, .int .i64 0, .slice none 0 0, .slice none 0 0, .slice none 0 0, .slice none 0 0] 28)
     have tT := ST_w2.out.below tb
     have tQ := Nat.le_trans LQ_w2.out tb.size
     have T5 := heap_alloc_self w2 (.cells #[.int .i64 0, .int .i64 0, .slice none 0 0, .slice none 0 0, .slice none 0 0, .slice none 0 0] 28)
     refine hK.out _ _ ?_ fun hHeld => ?_;exact tT.x4;clear hK K;try simp only [zn, Act.put]
     generalize w2.alloc (.cells #[.int .i64 0, .int .i64 0, .slice none 0 0, .slice none 0 0, .slice none 0 0, .slice none 0 0] 28) = w2a at tT tQ  T5 hHeld ⊢
     obtain ⟨p5, hp5⟩ : ∃ n, n = w2.heap.size := ⟨_, rfl⟩
     have P5 : Hid (lo ≤ p5) := Lib.hid (by rw [hp5]; exact LQ_w2.out)
     rw [← hp5] at T5 ⊢
     have ST_w2a := Lib.hid tT
     have LQ_w2a := Lib.hid tQ
     have X5_w2a := Lib.hid T5
     clear tb tT tQ  T5 hp5 ST_w2 LQ_w2 
     refine tkr 7 (fun K hK => ?_)
     go_simp
     refine (plist_section 16 pa pw pb v b s2 w2a ST_w2a.out.rd (by decide) (by decide)).mono ?_
     rintro e y3 ⟨LS, s3, hx, ⟨AS, nS, cS, rfl, hn, hl, ho⟩, hr, hb⟩
     have ST_y3 := Lib.hid (ST_w2a.out.next hr hb)
     have E2 := Lib.hid hx
     have LQ_y3 : Hid (lo ≤ y3.heap.size) := Lib.hid (Nat.le_trans LQ_w2a.out hb.size)
     have OS_y3 : Hid (SectsOwn y3 lo (.slice AS nS cS) LS) := Lib.hid (sects_mono ho LQ_w2a.out)
     clear ho hn hl
     have X5_y3 := Lib.hid ((hb.block p5 (heap_lt X5_w2a.out) (by have := LO.out; have := P5.out; omega) (by have := LO.out; have := P5.out; omega)).trans X5_w2a.out)
     clear hr hb hx ST_w2a LQ_w2a  X5_w2a
     try go_wp2_with fail
     refine hK.out _ _ ?_ fun hHeld => ?_;exact ST_y3.out.x4;clear hK K;try simp only [zn, Act.put]
     refine tkr 11 (fun K hK => ?_)
     go_simp
     refine (plist_point 6 pa pw pb v b s3 y3 ST_y3.out.rd (by decide) (by decide)).mono ?_
     rintro e y4 ⟨LP, s4, hx, ⟨AP, nP, cP, rfl, hn, hl, ho⟩, hr, hb⟩
     have ST_y4 := Lib.hid (ST_y3.out.next hr hb)
     have E3 := Lib.hid hx
     have LQ_y4 : Hid (lo ≤ y4.heap.size) := Lib.hid (Nat.le_trans LQ_y3.out hb.size)
     have OS_y4 : Hid (SectsOwn y4 lo (.slice AS nS cS) LS) := Lib.hid (secs_x OS_y3.out (by have := LO.out; omega) (by have := LO.out; omega) hb)
     have OP_y4 : Hid (PointsOwn y4 lo (.slice AP nP cP) LP) := Lib.hid (ho.mono LQ_y3.out)
     clear ho hn hl
     have X5_y4 := Lib.hid ((hb.block p5 (heap_lt X5_y3.out) (by have := LO.out; have := P5.out; omega) (by have := LO.out; have := P5.out; omega)).trans X5_y3.out)
     clear hr hb hx ST_y3 LQ_y3 OS_y3 X5_y3
     try go_wp2_with fail
     refine hK.out _ _ ?_ fun hHeld => ?_;exact ST_y4.out.x4;clear hK K;try simp only [zn, Act.put]
     refine tkr 15 (fun K hK => ?_)
     go_simp
     refine (plist_signal 10 pa pw pb v b s4 y4 ST_y4.out.rd (by decide) (by decide)).mono ?_
     rintro e y5 ⟨LG, s5, hx, ⟨AG, nG, cG, rfl, hn, hl, ho⟩, hr, hb⟩
     have ST_y5 := Lib.hid (ST_y4.out.next hr hb)
     have E4 := Lib.hid hx
     have LQ_y5 : Hid (lo ≤ y5.heap.size) := Lib.hid (Nat.le_trans LQ_y4.out hb.size)
     have OS_y5 : Hid (SectsOwn y5 lo (.slice AS nS cS) LS) := Lib.hid (secs_x OS_y4.out (by have := LO.out; omega) (by have := LO.out; omega) hb)
     have OP_y5 : Hid (PointsOwn y5 lo (.slice AP nP cP) LP) := Lib.hid (flat_x (T := 57) (sz := 2) (R := JoinR) (pa := pa) (pw := pw) (lo := lo) joinF OP_y4.out (by have := LO.out; omega) (by have := LO.out; omega) hb)
     have OG_y5 : Hid (SigsOwn y5 lo (.slice AG nG cG) LG) := Lib.hid (ho.mono LQ_y4.out)
     clear ho hn hl
     have X5_y5 := Lib.hid ((hb.block p5 (heap_lt X5_y4.out) (by have := LO.out; have := P5.out; omega) (by have := LO.out; have := P5.out; omega)).trans X5_y4.out)
     clear hr hb hx ST_y4 LQ_y4 OS_y4 OP_y4 X5_y4
     try go_wp2_with fail
     refine hK.out _ _ ?_ fun hHeld => ?_;exact ST_y5.out.x4;clear hK K;try simp only [zn, Act.put]
     refine tkr 19 (fun K hK => ?_)
     go_simp
     refine (plist_route 16 pa pw pb v b s5 y5 ST_y5.out.rd (by decide) (by decide)).mono ?_
     rintro e y6 ⟨LR, s6, hx, ⟨AR, nR, cR, rfl, hn, hl, ho⟩, hr, hb⟩
     have ST_y6 := Lib.hid (ST_y5.out.next hr hb)
     have E5 := Lib.hid hx
     have LQ_y6 : Hid (lo ≤ y6.heap.size) := Lib.hid (Nat.le_trans LQ_y5.out hb.size)
     have OS_y6 : Hid (SectsOwn y6 lo (.slice AS nS cS) LS) := Lib.hid (secs_x OS_y5.out (by have := LO.out; omega) (by have := LO.out; omega) hb)
     have OP_y6 : Hid (PointsOwn y6 lo (.slice AP nP cP) LP) := Lib.hid (flat_x (T := 57) (sz := 2) (R := JoinR) (pa := pa) (pw := pw) (lo := lo) joinF OP_y5.out (by have := LO.out; omega) (by have := LO.out; omega) hb)
     have OG_y6 : Hid (SigsOwn y6 lo (.slice AG nG cG) LG) := Lib.hid (flat_x (T := 59) (sz := 3) (R := SigR) (pa := pa) (pw := pw) (lo := lo) sigF OG_y5.out (by have := LO.out; omega) (by have := LO.out; omega) hb)
     have OR_y6 : Hid (RoutesOwn y6 lo (.slice AR nR cR) LR) := Lib.hid (routes_mono ho LQ_y5.out)
     clear ho hn hl
     have X5_y6 := Lib.hid ((hb.block p5 (heap_lt X5_y5.out) (by have := LO.out; have := P5.out; omega) (by have := LO.out; have := P5.out; omega)).trans X5_y5.out)
     clear hr hb hx ST_y5 LQ_y5 OS_y5 OP_y5 OG_y5 X5_y5
     try go_wp2_with fail
     refine hK.out _ _ ?_ fun hHeld => ?_;exact ST_y6.out.x4;clear hK K;try simp only [zn, Act.put]
     refine tk 20 hHeld ?_
     refine tkr 22 (fun K hK => ?_)
     rw [if_pos (by rfl)]
     refine wp_store_rowP 28 (.tmp 5) (.tmp 28) rfl p5 rfl (c' := #[.int .i64 x0, .int .i64 x1, .slice AS nS cS, .slice AP nP cP, .slice AG nG cG, .slice AR nR cR]) rfl X5_y6.out infoPlanA rfl (by simp [Value.oneCell']) ?_
     have TB : Below p5 y6 (y6.setRow p5 #[.int .i64 x0, .int .i64 x1, .slice AS nS cS, .slice AP nP cP, .slice AG nG cG, .slice AR nR cR]) := below_setRow (Below.refl _ _) (Nat.le_refl _) _
     have hg := grownBy_setRow y6 p5 #[.int .i64 x0, .int .i64 x1, .slice AS nS cS, .slice AP nP cP, .slice AG nG cG, .slice AR nR cR]
     have hq := LO.out
     have hp := P5.out
     have SS : PrsSt w (y6.setRow p5 #[.int .i64 x0, .int .i64 x1, .slice AS nS cS, .slice AP nP cP, .slice AG nG cG, .slice AR nR cR]) pa pw pb p2 p4 v b s6 := ⟨ST_y6.out.rd.setRow p5 _ (by omega) (by omega) (by omega), (TB.block _ (by omega)).trans ST_y6.out.x2, (TB.block _ (by omega)).trans ST_y6.out.x4, ST_y6.out.b.trans (TB.mono (by have := ST_y6.out.lt; omega)), ST_y6.out.lt⟩
     have PO : PlOwn (y6.setRow p5 #[.int .i64 x0, .int .i64 x1, .slice AS nS cS, .slice AP nP cP, .slice AG nG cG, .slice AR nR cR]) (p4 + 1) (.slice AS nS cS) (.slice AP nP cP) (.slice AG nG cG) (.slice AR nR cR) ⟨x0, x1, LS, LP, LG, LR⟩ := by
      have h0 : PlOwn y6 lo (.slice AS nS cS) (.slice AP nP cP) (.slice AG nG cG) (.slice AR nR cR) ⟨x0, x1, LS, LP, LG, LR⟩ := ⟨OS_y6.out, OP_y6.out, OG_y6.out, OR_y6.out⟩
      have h1 := plOwn_fz h0 hg ⟨_, X5_y6.out⟩
      rw [LO.out.1] at h1
      exact h1
     have X6 := setRow_heap y6 p5 _ #[.int .i64 x0, .int .i64 x1, .slice AS nS cS, .slice AP nP cP, .slice AG nG cG, .slice AR nR cR] 28 _ X5_y6.out
     have EE := plan_step E0.out E1.out E2.out E3.out E4.out E5.out
     refine hK.out _ _ ?_ fun hHeld => ?_;exact SS.x4;clear hK K;try simp only [zn, Act.put]
     refine wpAnyH_done (by kernel_rfl) ?_ _
     go_wp2_with fail
     go_meet
     exact ⟨p5, AS, nS, cS, AP, nP, cP, AG, nG, cG, AR, nR, cR, ⟨x0, x1, LS, LP, LG, LR⟩, s6, rfl, (by rw [← HS0.out]; exact EE), SS, X6, by omega, PO⟩
   ·go_simp
    have tb := below_new w1 (.cells #[.int .i64 0, .int .i64 0, .slice none 0 0, .slice none 0 0, .slice none 0 0, .slice none 0 0] 28)
    have tT := ST_w1.out.below tb
    have tQ := Nat.le_trans LQ_w1.out tb.size
    have T5 := heap_alloc_self w1 (.cells #[.int .i64 0, .int .i64 0, .slice none 0 0, .slice none 0 0, .slice none 0 0, .slice none 0 0] 28)
    refine hK.out _ _ ?_ fun hHeld => ?_;exact tT.x4;clear hK K;try simp only [zn, Act.put]
    generalize w1.alloc (.cells #[.int .i64 0, .int .i64 0, .slice none 0 0, .slice none 0 0, .slice none 0 0, .slice none 0 0] 28) = w1a at tT tQ  T5 hHeld ⊢
    obtain ⟨p5, hp5⟩ : ∃ n, n = w1.heap.size := ⟨_, rfl⟩
    have P5 : Hid (lo ≤ p5) := Lib.hid (by rw [hp5]; exact LQ_w1.out)
    rw [← hp5] at T5 ⊢
    have ST_w1a := Lib.hid tT
    have LQ_w1a := Lib.hid tQ
    have X5_w1a := Lib.hid T5
    clear tb tT tQ  T5 hp5 ST_w1 LQ_w1 
    refine tkr 3 (fun K hK => ?_)
    go_simp
    refine (pnumber_any pa pw pb v b s1 w1a ST_w1a.out.rd).mono ?_
    rintro e y2 ⟨x1, s2, hx, rfl, hr, hb⟩
    have ST_y2 := Lib.hid (ST_w1a.out.next hr hb)
    have E1 := Lib.hid hx
    have LQ_y2 : Hid (lo ≤ y2.heap.size) := Lib.hid (Nat.le_trans LQ_w1a.out hb.size)
    have X5_y2 := Lib.hid ((hb.block p5 (heap_lt X5_w1a.out) (by have := LO.out; have := P5.out; omega) (by have := LO.out; have := P5.out; omega)).trans X5_w1a.out)
    clear hr hb hx ST_w1a LQ_w1a  X5_w1a
    try go_wp2_with fail
    refine hK.out _ _ ?_ fun hHeld => ?_;exact ST_y2.out.x4;clear hK K;try simp only [zn, Act.put]
    refine tkr 7 (fun K hK => ?_)
    go_simp
    refine (plist_section 16 pa pw pb v b s2 y2 ST_y2.out.rd (by decide) (by decide)).mono ?_
    rintro e y3 ⟨LS, s3, hx, ⟨AS, nS, cS, rfl, hn, hl, ho⟩, hr, hb⟩
    have ST_y3 := Lib.hid (ST_y2.out.next hr hb)
    have E2 := Lib.hid hx
    have LQ_y3 : Hid (lo ≤ y3.heap.size) := Lib.hid (Nat.le_trans LQ_y2.out hb.size)
    have OS_y3 : Hid (SectsOwn y3 lo (.slice AS nS cS) LS) := Lib.hid (sects_mono ho LQ_y2.out)
    clear ho hn hl
    have X5_y3 := Lib.hid ((hb.block p5 (heap_lt X5_y2.out) (by have := LO.out; have := P5.out; omega) (by have := LO.out; have := P5.out; omega)).trans X5_y2.out)
    clear hr hb hx ST_y2 LQ_y2  X5_y2
    try go_wp2_with fail
    refine hK.out _ _ ?_ fun hHeld => ?_;exact ST_y3.out.x4;clear hK K;try simp only [zn, Act.put]
    refine tkr 11 (fun K hK => ?_)
    go_simp
    refine (plist_point 6 pa pw pb v b s3 y3 ST_y3.out.rd (by decide) (by decide)).mono ?_
    rintro e y4 ⟨LP, s4, hx, ⟨AP, nP, cP, rfl, hn, hl, ho⟩, hr, hb⟩
    have ST_y4 := Lib.hid (ST_y3.out.next hr hb)
    have E3 := Lib.hid hx
    have LQ_y4 : Hid (lo ≤ y4.heap.size) := Lib.hid (Nat.le_trans LQ_y3.out hb.size)
    have OS_y4 : Hid (SectsOwn y4 lo (.slice AS nS cS) LS) := Lib.hid (secs_x OS_y3.out (by have := LO.out; omega) (by have := LO.out; omega) hb)
    have OP_y4 : Hid (PointsOwn y4 lo (.slice AP nP cP) LP) := Lib.hid (ho.mono LQ_y3.out)
    clear ho hn hl
    have X5_y4 := Lib.hid ((hb.block p5 (heap_lt X5_y3.out) (by have := LO.out; have := P5.out; omega) (by have := LO.out; have := P5.out; omega)).trans X5_y3.out)
    clear hr hb hx ST_y3 LQ_y3 OS_y3 X5_y3
    try go_wp2_with fail
    refine hK.out _ _ ?_ fun hHeld => ?_;exact ST_y4.out.x4;clear hK K;try simp only [zn, Act.put]
    refine tkr 15 (fun K hK => ?_)
    go_simp
    refine (plist_signal 10 pa pw pb v b s4 y4 ST_y4.out.rd (by decide) (by decide)).mono ?_
    rintro e y5 ⟨LG, s5, hx, ⟨AG, nG, cG, rfl, hn, hl, ho⟩, hr, hb⟩
    have ST_y5 := Lib.hid (ST_y4.out.next hr hb)
    have E4 := Lib.hid hx
    have LQ_y5 : Hid (lo ≤ y5.heap.size) := Lib.hid (Nat.le_trans LQ_y4.out hb.size)
    have OS_y5 : Hid (SectsOwn y5 lo (.slice AS nS cS) LS) := Lib.hid (secs_x OS_y4.out (by have := LO.out; omega) (by have := LO.out; omega) hb)
    have OP_y5 : Hid (PointsOwn y5 lo (.slice AP nP cP) LP) := Lib.hid (flat_x (T := 57) (sz := 2) (R := JoinR) (pa := pa) (pw := pw) (lo := lo) joinF OP_y4.out (by have := LO.out; omega) (by have := LO.out; omega) hb)
    have OG_y5 : Hid (SigsOwn y5 lo (.slice AG nG cG) LG) := Lib.hid (ho.mono LQ_y4.out)
    clear ho hn hl
    have X5_y5 := Lib.hid ((hb.block p5 (heap_lt X5_y4.out) (by have := LO.out; have := P5.out; omega) (by have := LO.out; have := P5.out; omega)).trans X5_y4.out)
    clear hr hb hx ST_y4 LQ_y4 OS_y4 OP_y4 X5_y4
    try go_wp2_with fail
    refine hK.out _ _ ?_ fun hHeld => ?_;exact ST_y5.out.x4;clear hK K;try simp only [zn, Act.put]
    refine tkr 19 (fun K hK => ?_)
    go_simp
    refine (plist_route 16 pa pw pb v b s5 y5 ST_y5.out.rd (by decide) (by decide)).mono ?_
    rintro e y6 ⟨LR, s6, hx, ⟨AR, nR, cR, rfl, hn, hl, ho⟩, hr, hb⟩
    have ST_y6 := Lib.hid (ST_y5.out.next hr hb)
    have E5 := Lib.hid hx
    have LQ_y6 : Hid (lo ≤ y6.heap.size) := Lib.hid (Nat.le_trans LQ_y5.out hb.size)
    have OS_y6 : Hid (SectsOwn y6 lo (.slice AS nS cS) LS) := Lib.hid (secs_x OS_y5.out (by have := LO.out; omega) (by have := LO.out; omega) hb)
    have OP_y6 : Hid (PointsOwn y6 lo (.slice AP nP cP) LP) := Lib.hid (flat_x (T := 57) (sz := 2) (R := JoinR) (pa := pa) (pw := pw) (lo := lo) joinF OP_y5.out (by have := LO.out; omega) (by have := LO.out; omega) hb)
    have OG_y6 : Hid (SigsOwn y6 lo (.slice AG nG cG) LG) := Lib.hid (flat_x (T := 59) (sz := 3) (R := SigR) (pa := pa) (pw := pw) (lo := lo) sigF OG_y5.out (by have := LO.out; omega) (by have := LO.out; omega) hb)
    have OR_y6 : Hid (RoutesOwn y6 lo (.slice AR nR cR) LR) := Lib.hid (routes_mono ho LQ_y5.out)
    clear ho hn hl
    have X5_y6 := Lib.hid ((hb.block p5 (heap_lt X5_y5.out) (by have := LO.out; have := P5.out; omega) (by have := LO.out; have := P5.out; omega)).trans X5_y5.out)
    clear hr hb hx ST_y5 LQ_y5 OS_y5 OP_y5 OG_y5 X5_y5
    try go_wp2_with fail
    refine hK.out _ _ ?_ fun hHeld => ?_;exact ST_y6.out.x4;clear hK K;try simp only [zn, Act.put]
    refine tk 20 hHeld ?_
    refine tkr 22 (fun K hK => ?_)
    rw [if_pos (by rfl)]
    refine wp_store_rowP 28 (.tmp 5) (.tmp 28) rfl p5 rfl (c' := #[.int .i64 x0, .int .i64 x1, .slice AS nS cS, .slice AP nP cP, .slice AG nG cG, .slice AR nR cR]) rfl X5_y6.out infoPlanA rfl (by simp [Value.oneCell']) ?_
    have TB : Below p5 y6 (y6.setRow p5 #[.int .i64 x0, .int .i64 x1, .slice AS nS cS, .slice AP nP cP, .slice AG nG cG, .slice AR nR cR]) := below_setRow (Below.refl _ _) (Nat.le_refl _) _
    have hg := grownBy_setRow y6 p5 #[.int .i64 x0, .int .i64 x1, .slice AS nS cS, .slice AP nP cP, .slice AG nG cG, .slice AR nR cR]
    have hq := LO.out
    have hp := P5.out
    have SS : PrsSt w (y6.setRow p5 #[.int .i64 x0, .int .i64 x1, .slice AS nS cS, .slice AP nP cP, .slice AG nG cG, .slice AR nR cR]) pa pw pb p2 p4 v b s6 := ⟨ST_y6.out.rd.setRow p5 _ (by omega) (by omega) (by omega), (TB.block _ (by omega)).trans ST_y6.out.x2, (TB.block _ (by omega)).trans ST_y6.out.x4, ST_y6.out.b.trans (TB.mono (by have := ST_y6.out.lt; omega)), ST_y6.out.lt⟩
    have PO : PlOwn (y6.setRow p5 #[.int .i64 x0, .int .i64 x1, .slice AS nS cS, .slice AP nP cP, .slice AG nG cG, .slice AR nR cR]) (p4 + 1) (.slice AS nS cS) (.slice AP nP cP) (.slice AG nG cG) (.slice AR nR cR) ⟨x0, x1, LS, LP, LG, LR⟩ := by
     have h0 : PlOwn y6 lo (.slice AS nS cS) (.slice AP nP cP) (.slice AG nG cG) (.slice AR nR cR) ⟨x0, x1, LS, LP, LG, LR⟩ := ⟨OS_y6.out, OP_y6.out, OG_y6.out, OR_y6.out⟩
     have h1 := plOwn_fz h0 hg ⟨_, X5_y6.out⟩
     rw [LO.out.1] at h1
     exact h1
    have X6 := setRow_heap y6 p5 _ #[.int .i64 x0, .int .i64 x1, .slice AS nS cS, .slice AP nP cP, .slice AG nG cG, .slice AR nR cR] 28 _ X5_y6.out
    have EE := plan_step E0.out E1.out E2.out E3.out E4.out E5.out
    refine hK.out _ _ ?_ fun hHeld => ?_;exact SS.x4;clear hK K;try simp only [zn, Act.put]
    refine wpAnyH_done (by kernel_rfl) ?_ _
    go_wp2_with fail
    go_meet
    exact ⟨p5, AS, nS, cS, AP, nP, cP, AG, nG, cG, AR, nR, cR, ⟨x0, x1, LS, LP, LG, LR⟩, s6, rfl, (by rw [← HS0.out]; exact EE), SS, X6, by omega, PO⟩
  ·go_simp
   have tb := below_new q0 (.cells #[.int .i64 0, .int .i64 0, .slice none 0 0, .slice none 0 0, .slice none 0 0, .slice none 0 0] 28)
   have tT := ST_q0.out.below tb
   have tQ := Nat.le_trans LQ_q0.out tb.size
   have T5 := heap_alloc_self q0 (.cells #[.int .i64 0, .int .i64 0, .slice none 0 0, .slice none 0 0, .slice none 0 0, .slice none 0 0] 28)
   refine hK.out _ _ ?_ fun hHeld => ?_;exact tT.x4;clear hK K;try simp only [zn, Act.put]
   generalize q0.alloc (.cells #[.int .i64 0, .int .i64 0, .slice none 0 0, .slice none 0 0, .slice none 0 0, .slice none 0 0] 28) = q0a at tT tQ  T5 hHeld ⊢
   obtain ⟨p5, hp5⟩ : ∃ n, n = q0.heap.size := ⟨_, rfl⟩
   have P5 : Hid (lo ≤ p5) := Lib.hid (by rw [hp5]; exact LQ_q0.out)
   rw [← hp5] at T5 ⊢
   have ST_q0a := Lib.hid tT
   have LQ_q0a := Lib.hid tQ
   have X5_q0a := Lib.hid T5
   clear tb tT tQ  T5 hp5 ST_q0 LQ_q0 
   refine tkr 1 (fun K hK => ?_)
   go_simp
   refine (pnumber_any pa pw pb v b s q0a ST_q0a.out.rd).mono ?_
   rintro e y1 ⟨x0, s1, hx, rfl, hr, hb⟩
   have ST_y1 := Lib.hid (ST_q0a.out.next hr hb)
   have E0 := Lib.hid hx
   have LQ_y1 : Hid (lo ≤ y1.heap.size) := Lib.hid (Nat.le_trans LQ_q0a.out hb.size)
   have X5_y1 := Lib.hid ((hb.block p5 (heap_lt X5_q0a.out) (by have := LO.out; have := P5.out; omega) (by have := LO.out; have := P5.out; omega)).trans X5_q0a.out)
   clear hr hb hx ST_q0a LQ_q0a  X5_q0a
   try go_wp2_with fail
   refine hK.out _ _ ?_ fun hHeld => ?_;exact ST_y1.out.x4;clear hK K;try simp only [zn, Act.put]
   refine tkr 3 (fun K hK => ?_)
   go_simp
   refine (pnumber_any pa pw pb v b s1 y1 ST_y1.out.rd).mono ?_
   rintro e y2 ⟨x1, s2, hx, rfl, hr, hb⟩
   have ST_y2 := Lib.hid (ST_y1.out.next hr hb)
   have E1 := Lib.hid hx
   have LQ_y2 : Hid (lo ≤ y2.heap.size) := Lib.hid (Nat.le_trans LQ_y1.out hb.size)
   have X5_y2 := Lib.hid ((hb.block p5 (heap_lt X5_y1.out) (by have := LO.out; have := P5.out; omega) (by have := LO.out; have := P5.out; omega)).trans X5_y1.out)
   clear hr hb hx ST_y1 LQ_y1  X5_y1
   try go_wp2_with fail
   refine hK.out _ _ ?_ fun hHeld => ?_;exact ST_y2.out.x4;clear hK K;try simp only [zn, Act.put]
   refine tkr 7 (fun K hK => ?_)
   go_simp
   refine (plist_section 16 pa pw pb v b s2 y2 ST_y2.out.rd (by decide) (by decide)).mono ?_
   rintro e y3 ⟨LS, s3, hx, ⟨AS, nS, cS, rfl, hn, hl, ho⟩, hr, hb⟩
   have ST_y3 := Lib.hid (ST_y2.out.next hr hb)
   have E2 := Lib.hid hx
   have LQ_y3 : Hid (lo ≤ y3.heap.size) := Lib.hid (Nat.le_trans LQ_y2.out hb.size)
   have OS_y3 : Hid (SectsOwn y3 lo (.slice AS nS cS) LS) := Lib.hid (sects_mono ho LQ_y2.out)
   clear ho hn hl
   have X5_y3 := Lib.hid ((hb.block p5 (heap_lt X5_y2.out) (by have := LO.out; have := P5.out; omega) (by have := LO.out; have := P5.out; omega)).trans X5_y2.out)
   clear hr hb hx ST_y2 LQ_y2  X5_y2
   try go_wp2_with fail
   refine hK.out _ _ ?_ fun hHeld => ?_;exact ST_y3.out.x4;clear hK K;try simp only [zn, Act.put]
   refine tkr 11 (fun K hK => ?_)
   go_simp
   refine (plist_point 6 pa pw pb v b s3 y3 ST_y3.out.rd (by decide) (by decide)).mono ?_
   rintro e y4 ⟨LP, s4, hx, ⟨AP, nP, cP, rfl, hn, hl, ho⟩, hr, hb⟩
   have ST_y4 := Lib.hid (ST_y3.out.next hr hb)
   have E3 := Lib.hid hx
   have LQ_y4 : Hid (lo ≤ y4.heap.size) := Lib.hid (Nat.le_trans LQ_y3.out hb.size)
   have OS_y4 : Hid (SectsOwn y4 lo (.slice AS nS cS) LS) := Lib.hid (secs_x OS_y3.out (by have := LO.out; omega) (by have := LO.out; omega) hb)
   have OP_y4 : Hid (PointsOwn y4 lo (.slice AP nP cP) LP) := Lib.hid (ho.mono LQ_y3.out)
   clear ho hn hl
   have X5_y4 := Lib.hid ((hb.block p5 (heap_lt X5_y3.out) (by have := LO.out; have := P5.out; omega) (by have := LO.out; have := P5.out; omega)).trans X5_y3.out)
   clear hr hb hx ST_y3 LQ_y3 OS_y3 X5_y3
   try go_wp2_with fail
   refine hK.out _ _ ?_ fun hHeld => ?_;exact ST_y4.out.x4;clear hK K;try simp only [zn, Act.put]
   refine tkr 15 (fun K hK => ?_)
   go_simp
   refine (plist_signal 10 pa pw pb v b s4 y4 ST_y4.out.rd (by decide) (by decide)).mono ?_
   rintro e y5 ⟨LG, s5, hx, ⟨AG, nG, cG, rfl, hn, hl, ho⟩, hr, hb⟩
   have ST_y5 := Lib.hid (ST_y4.out.next hr hb)
   have E4 := Lib.hid hx
   have LQ_y5 : Hid (lo ≤ y5.heap.size) := Lib.hid (Nat.le_trans LQ_y4.out hb.size)
   have OS_y5 : Hid (SectsOwn y5 lo (.slice AS nS cS) LS) := Lib.hid (secs_x OS_y4.out (by have := LO.out; omega) (by have := LO.out; omega) hb)
   have OP_y5 : Hid (PointsOwn y5 lo (.slice AP nP cP) LP) := Lib.hid (flat_x (T := 57) (sz := 2) (R := JoinR) (pa := pa) (pw := pw) (lo := lo) joinF OP_y4.out (by have := LO.out; omega) (by have := LO.out; omega) hb)
   have OG_y5 : Hid (SigsOwn y5 lo (.slice AG nG cG) LG) := Lib.hid (ho.mono LQ_y4.out)
   clear ho hn hl
   have X5_y5 := Lib.hid ((hb.block p5 (heap_lt X5_y4.out) (by have := LO.out; have := P5.out; omega) (by have := LO.out; have := P5.out; omega)).trans X5_y4.out)
   clear hr hb hx ST_y4 LQ_y4 OS_y4 OP_y4 X5_y4
   try go_wp2_with fail
   refine hK.out _ _ ?_ fun hHeld => ?_;exact ST_y5.out.x4;clear hK K;try simp only [zn, Act.put]
   refine tkr 19 (fun K hK => ?_)
   go_simp
   refine (plist_route 16 pa pw pb v b s5 y5 ST_y5.out.rd (by decide) (by decide)).mono ?_
   rintro e y6 ⟨LR, s6, hx, ⟨AR, nR, cR, rfl, hn, hl, ho⟩, hr, hb⟩
   have ST_y6 := Lib.hid (ST_y5.out.next hr hb)
   have E5 := Lib.hid hx
   have LQ_y6 : Hid (lo ≤ y6.heap.size) := Lib.hid (Nat.le_trans LQ_y5.out hb.size)
   have OS_y6 : Hid (SectsOwn y6 lo (.slice AS nS cS) LS) := Lib.hid (secs_x OS_y5.out (by have := LO.out; omega) (by have := LO.out; omega) hb)
   have OP_y6 : Hid (PointsOwn y6 lo (.slice AP nP cP) LP) := Lib.hid (flat_x (T := 57) (sz := 2) (R := JoinR) (pa := pa) (pw := pw) (lo := lo) joinF OP_y5.out (by have := LO.out; omega) (by have := LO.out; omega) hb)
   have OG_y6 : Hid (SigsOwn y6 lo (.slice AG nG cG) LG) := Lib.hid (flat_x (T := 59) (sz := 3) (R := SigR) (pa := pa) (pw := pw) (lo := lo) sigF OG_y5.out (by have := LO.out; omega) (by have := LO.out; omega) hb)
   have OR_y6 : Hid (RoutesOwn y6 lo (.slice AR nR cR) LR) := Lib.hid (routes_mono ho LQ_y5.out)
   clear ho hn hl
   have X5_y6 := Lib.hid ((hb.block p5 (heap_lt X5_y5.out) (by have := LO.out; have := P5.out; omega) (by have := LO.out; have := P5.out; omega)).trans X5_y5.out)
   clear hr hb hx ST_y5 LQ_y5 OS_y5 OP_y5 OG_y5 X5_y5
   try go_wp2_with fail
   refine hK.out _ _ ?_ fun hHeld => ?_;exact ST_y6.out.x4;clear hK K;try simp only [zn, Act.put]
   refine tk 20 hHeld ?_
   refine tkr 22 (fun K hK => ?_)
   rw [if_pos (by rfl)]
   refine wp_store_rowP 28 (.tmp 5) (.tmp 28) rfl p5 rfl (c' := #[.int .i64 x0, .int .i64 x1, .slice AS nS cS, .slice AP nP cP, .slice AG nG cG, .slice AR nR cR]) rfl X5_y6.out infoPlanA rfl (by simp [Value.oneCell']) ?_
   have TB : Below p5 y6 (y6.setRow p5 #[.int .i64 x0, .int .i64 x1, .slice AS nS cS, .slice AP nP cP, .slice AG nG cG, .slice AR nR cR]) := below_setRow (Below.refl _ _) (Nat.le_refl _) _
   have hg := grownBy_setRow y6 p5 #[.int .i64 x0, .int .i64 x1, .slice AS nS cS, .slice AP nP cP, .slice AG nG cG, .slice AR nR cR]
   have hq := LO.out
   have hp := P5.out
   have SS : PrsSt w (y6.setRow p5 #[.int .i64 x0, .int .i64 x1, .slice AS nS cS, .slice AP nP cP, .slice AG nG cG, .slice AR nR cR]) pa pw pb p2 p4 v b s6 := ⟨ST_y6.out.rd.setRow p5 _ (by omega) (by omega) (by omega), (TB.block _ (by omega)).trans ST_y6.out.x2, (TB.block _ (by omega)).trans ST_y6.out.x4, ST_y6.out.b.trans (TB.mono (by have := ST_y6.out.lt; omega)), ST_y6.out.lt⟩
   have PO : PlOwn (y6.setRow p5 #[.int .i64 x0, .int .i64 x1, .slice AS nS cS, .slice AP nP cP, .slice AG nG cG, .slice AR nR cR]) (p4 + 1) (.slice AS nS cS) (.slice AP nP cP) (.slice AG nG cG) (.slice AR nR cR) ⟨x0, x1, LS, LP, LG, LR⟩ := by
    have h0 : PlOwn y6 lo (.slice AS nS cS) (.slice AP nP cP) (.slice AG nG cG) (.slice AR nR cR) ⟨x0, x1, LS, LP, LG, LR⟩ := ⟨OS_y6.out, OP_y6.out, OG_y6.out, OR_y6.out⟩
    have h1 := plOwn_fz h0 hg ⟨_, X5_y6.out⟩
    rw [LO.out.1] at h1
    exact h1
   have X6 := setRow_heap y6 p5 _ #[.int .i64 x0, .int .i64 x1, .slice AS nS cS, .slice AP nP cP, .slice AG nG cG, .slice AR nR cR] 28 _ X5_y6.out
   have EE := plan_step E0.out E1.out E2.out E3.out E4.out E5.out
   refine hK.out _ _ ?_ fun hHeld => ?_;exact SS.x4;clear hK K;try simp only [zn, Act.put]
   refine wpAnyH_done (by kernel_rfl) ?_ _
   go_wp2_with fail
   go_meet
   exact ⟨p5, AS, nS, cS, AP, nP, cP, AG, nG, cG, AR, nR, cR, ⟨x0, x1, LS, LP, LG, LR⟩, s6, rfl, (by rw [← HS0.out]; exact EE), SS, X6, by omega, PO⟩
 case rest =>
  obtain ⟨p5, A2, n2, c2, A3, n3, c3, A4, n4, c4, A5, n5, c5, p, s9, rfl, hpl, hst, hx5, hp5, hown⟩ := hcut
  have ST := Lib.hid hst
  have X5 := Lib.hid hx5
  have OW := Lib.hid hown
  have hrd := plan_read b
  rw [hpl] at hrd
  have HR := Lib.hid hrd
  clear hpl hst hown hp5 hrd S0 LQ0
  obtain ⟨k0, k1⟩ := cell2_of ST.out.x4
  obtain ⟨m0, m1, m2, m3, m4, m5⟩ := cell6_of hx5
  clear hx5
  go_wp2_with fail
  refine (pended_any pa pw pb v b s9 _ ST.out.rd).mono ?_
  rintro e w' ⟨rfl, hw⟩
  rw [hw]
  clear hw w'
  by_cases he : s9.2 = true ∧ s9.1 = b.length
  rotate_left
  ·have HBAD : Hid (parseE b = 8 ∧ parseP b = zPl) := Lib.hid (HR.out.2 fun h => he ⟨h.1, h.2.1⟩)
   have d0 : (s9.2 && decide (s9.1 = b.length)) = false := by
    rw [Bool.and_eq_false_iff]
    rcases Classical.em (s9.2 = true) with h1 | h1
    ·exact .inr (decide_eq_false fun h2 => he ⟨h1, h2⟩)
    ·exact .inl (by simpa using h1)
   rw [d0]
   clear he d0
   go_wp2_with ((with_reducible show wpList _ _ _ (⟨none, _, _, _, _, _⟩ :: _) _ _); refine wpList_store_rowS rfl _ (.tmp 2) (.tmp 38) rfl p2 rfl (c' := #[.int .i64 0, .int .i64 0, .slice none 0 0, .slice none 0 0, .slice none 0 0, .slice none 0 0]) rfl ST.out.x2 infoPlanA rfl (by simp [Value.oneCell']) ?_)
   refine bodyPost_ret (results_rowS_tmp (c := #[.int .i64 0, .int .i64 0, .slice none 0 0, .slice none 0 0, .slice none 0 0, .slice none 0 0]) rfl _ _ p2 rfl (setRow_heap _ _ _ _ _ _ ST.out.x2) Tryz.underlying28 infoPlanA (.int .i64 8) rfl) rfl ?_
   rw [HBAD.out.1, HBAD.out.2]
   exact ⟨_, _, _, _, rfl, ⟨ListOwn.nil_, ListOwn.nil_, ListOwn.nil_, ListOwn.nil_⟩, below_setRow ST.out.b (by have := ST.out.lt; omega) _⟩
  have d0 : (s9.2 && decide (s9.1 = b.length)) = true := by rw [he.1, he.2]; simp
  rw [d0]
  have HE := Lib.hid he
  clear he d0
  have PV : Hid (PlanV wc wc.heap.size (.agg #[.int .i64 p.ver, .int .i64 p.par, .slice A2 n2 c2, .slice A3 n3 c3, .slice A4 n4 c4, .slice A5 n5 c5]) p) := Lib.hid ⟨_, _, _, _, rfl, OW.out.in_⟩
  go_wp2_with fail
  refine (hs.check _ p wc PV.out).mono ?_
  rintro e w3 ⟨rfl, b3⟩
  have S3 := Lib.hid (ST.out.below b3)
  have X3 := Lib.hid ((b3.block _ (heap_lt X5.out)).trans X5.out)
  have O3 := Lib.hid (OW.out.below b3)
  clear b3 k0 k1 m0 m1 m2 m3 m4 m5 ST X5 OW PV
  by_cases hm : PlanMay p
  rotate_left
  ·have HBAD : Hid (parseE b = 8 ∧ parseP b = zPl) := Lib.hid (HR.out.2 fun h => hm h.2.2)
   have HC : chk8 p = 8 := by rw [chk8, planMay_false hm]; rfl
   rw [HC]
   clear hm HC
   go_wp2_with ((with_reducible show wpList _ _ _ (⟨none, _, _, _, _, _⟩ :: _) _ _); refine wpList_store_rowS rfl _ (.tmp 2) (.tmp 38) rfl p2 rfl (c' := #[.int .i64 0, .int .i64 0, .slice none 0 0, .slice none 0 0, .slice none 0 0, .slice none 0 0]) rfl S3.out.x2 infoPlanA rfl (by simp [Value.oneCell']) ?_)
   refine bodyPost_ret (results_rowS_tmp (c := #[.int .i64 0, .int .i64 0, .slice none 0 0, .slice none 0 0, .slice none 0 0, .slice none 0 0]) rfl _ _ p2 rfl (setRow_heap _ _ _ _ _ _ S3.out.x2) Tryz.underlying28 infoPlanA (.int .i64 8) rfl) rfl ?_
   rw [HBAD.out.1, HBAD.out.2]
   exact ⟨_, _, _, _, rfl, ⟨ListOwn.nil_, ListOwn.nil_, ListOwn.nil_, ListOwn.nil_⟩, below_setRow S3.out.b (by have := S3.out.lt; omega) _⟩
  have HC : chk8 p = 0 := by rw [chk8, planMay_true hm]; rfl
  rw [HC]
  have HOK := Lib.hid (HR.out.1 ⟨HE.out.1, HE.out.2, hm⟩)
  clear hm HC
  obtain ⟨m0, m1, m2, m3, m4, m5⟩ := cell6_of X3.out
  go_wp2_with ((with_reducible show wpList _ _ _ (⟨none, _, _, _, _, _⟩ :: _) _ _); refine wpList_store_rowS rfl _ (.tmp 2) (.tmp 39) rfl p2 rfl (c' := #[.int .i64 p.ver, .int .i64 p.par, .slice A2 n2 c2, .slice A3 n3 c3, .slice A4 n4 c4, .slice A5 n5 c5]) rfl S3.out.x2 infoPlanA rfl (by simp [Value.oneCell']) ?_)
  refine bodyPost_ret (results_rowS_tmp (c := #[.int .i64 p.ver, .int .i64 p.par, .slice A2 n2 c2, .slice A3 n3 c3, .slice A4 n4 c4, .slice A5 n5 c5]) rfl _ _ p2 rfl (setRow_heap _ _ _ _ _ _ S3.out.x2) Tryz.underlying28 infoPlanA (.int .i64 0) rfl) rfl ?_
  rw [HOK.out.1, HOK.out.2]
  exact ⟨_, _, _, _, rfl, (plOwn_fz O3.out (grownBy_setRow _ p2 _) ⟨_, S3.out.x2⟩).mono_ (by have := S3.out.lt; omega), below_setRow S3.out.b (by have := S3.out.lt; omega) _⟩
theorem pckSaid (hs : PlanSaid) : PckSaid := ⟨fun v p w h => ptext_any hs v p w h, fun v b w h hl => pparse_any hs v b w h hl⟩
end Go.Proofs.YteloiajocjahmaaGreatDoor
