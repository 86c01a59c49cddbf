/-
  Read, as the program answers it.
  Conditions: none.
-/
import Derived.Test.YtdjoflhcagfmiaaDevWrite
set_option linter.unusedVariables false
set_option linter.unusedSimpArgs false
set_option maxRecDepth 100000
namespace Go.Proofs.Ytdjoflhcagfmiaa
open Go.RowKit Go.Shelf

attribute [local go_sem] Oper.semAt_some

def readS (ss : List Bs) (ws : List Wr) (n : Int) : Bs := if atE ss ws n = 0 then seeAll (ss.getD n.toNat []) n.toNat (piecesOf ws (all128 ws)) else []

theorem read_bad (d : Value) (ss : List Bs) (ws : List Wr) (n : Int) (w : World) (h : DiskIn w w.heap.size d ss ws) (h0 : atE ss ws n ≠ 0) :
    Calls Try.prog 27 #[d, .int .i64 n] w fun e w' => ∃ y, e = .returned (.tuple #[y, .int .i64 (atE ss ws n)]) ∧ w'.ownsRow w.heap.size 5 1 y (readS ss ws n).length ((readS ss ws n).map u8) ∧ Below w.heap.size w w' := by
  obtain ⟨v1, v2, rfl, h1, h2⟩ := id h
  have H := Lib.hid h
  clear h1 h2 h
  obtain ⟨r, hr⟩ : ∃ r, r = atE ss ws n := ⟨_, rfl⟩
  have HR : Hid (readS ss ws n = []) := Lib.hid (by rw [readS, if_neg h0])
  have hc := checkAt_any (.agg #[v1, v2]) ss ws n
  rw [← hr] at h0 hc ⊢
  have hrb : (r == 0) = false := by rw [beq_eq_false_iff_ne]; exact h0
  have HC := Lib.hid hc
  clear hr hc
  have hq := two_boxes w (.cells #[v1, v2] 29) (.cells #[.int .i64 n] 3)
  go_enter Try.func27, Try.ntmps27
  go_wp2_with fail
  generalize (w.alloc (.cells #[v1, v2] 29)).alloc (.cells #[.int .i64 n] 3) = q at hq ⊢
  obtain ⟨q0, q1, qb⟩ := hq
  have QB := Lib.hid qb
  refine (HC.out q ((H.out.below QB.out).more QB.out.size)).mono ?_
  rintro e w1 ⟨rfl, b1⟩
  have B1 := Lib.hid (QB.out.trans (b1.mono QB.out.size))
  clear q0 q1 qb b1 QB
  go_wp2_with fail
  refine bodyPost_ret (results_tmp2 rfl _ _ _) rfl ⟨.slice none 0 0, rfl, ?_, B1.out⟩
  rw [HR.out]
  exact World.ownsRow_nil _ _ _ _

set_option maxRecDepth 100000 in
set_option maxHeartbeats 2000000 in
theorem read_good (d : Value) (ss : List Bs) (ws : List Wr) (n : Int) (w : World) (h : DiskIn w w.heap.size d ss ws) (h0 : atE ss ws n = 0) :
    Calls Try.prog 27 #[d, .int .i64 n] w fun e w' => ∃ y, e = .returned (.tuple #[y, .int .i64 0]) ∧ w'.ownsRow w.heap.size 5 1 y (readS ss ws n).length ((readS ss ws n).map u8) ∧ Below w.heap.size w w' := by
  obtain ⟨v1, v2, rfl, h1, h2⟩ := id h
  have H := Lib.hid h
  have H1 := Lib.hid h1
  have H2 := Lib.hid h2
  obtain ⟨A1, c1, rfl, -, -, -, -⟩ := h1
  obtain ⟨A2, c2, rfl, -, -, -, -⟩ := h2
  have HM := Lib.hid (atE_may h0)
  obtain ⟨a, ha⟩ : ∃ a : Nat, n = (a : Int) := ⟨n.toNat, by have := HM.out.2.1; omega⟩
  subst ha
  have hRS : readS ss ws (a : Int) = seeAll (ss.getD a []) a (piecesOf ws (all128 ws)) := by rw [readS, if_pos h0]; rfl
  have HRS := Lib.hid hRS
  have hc := checkAt_any (.agg #[.slice A1 ss.length c1, .slice A2 ws.length c2]) ss ws a
  rw [h0] at hc
  have HC := Lib.hid hc
  clear h h0 hc hRS
  refine (callsIn_wide (n := 3)).1 ?_
  have hmf : ∀ (fn : Fn) (first cap : Array Value) (w : World), (Instr.makeFunc fn first cap).run Try.prog w = .ok (.func fn first cap) w := fun _ _ _ _ => rfl
  have hq := two_boxes w (.cells #[.slice A1 ss.length c1, .slice A2 ws.length c2] 29) (.cells #[.int .i64 (a : Int)] 3)
  refine callsIn_of_wp_marks Try.func27 rfl trivial ?_ rfl
  simp only [Try.ntmps27, List.size_toArray, List.length_cons, List.length_nil, Nat.reduceAdd, Nat.reduceSub, Array.replicate_succ, Array.replicate_zero, List.push_toArray, List.append_toArray, List.nil_append, List.cons_append]
  gi_wp2_with fail
  generalize (w.alloc (.cells #[.slice A1 ss.length c1, .slice A2 ws.length c2] 29)).alloc (.cells #[.int .i64 (a : Int)] 3) = q at hq ⊢
  obtain ⟨q0, q1, qb⟩ := hq
  have QB := Lib.hid qb
  refine ⟨trivial, ?_⟩
  refine (callsIn_wide.2 (HC.out q ((H.out.below QB.out).more QB.out.size))).mono ?_
  rintro e w1 ⟨rfl, b1⟩
  have B1 := Lib.hid (QB.out.trans (b1.mono QB.out.size))
  have C0 := Lib.hid ((b1.block _ (heap_lt q0)).trans q0)
  have C1 : Hid (Boxed w1 (w.heap.size + 1) 3 (.int .i64 (a : Int))) := Lib.hid ((b1.block _ (heap_lt q1)).trans q1)
  clear q0 q1 qb b1 QB
  obtain ⟨k0, k1⟩ := cell2_of C0.out
  have k2 := C1.out.cell
  have hal : a < ss.length := by have := HM.out.1.n; have := HM.out.2.2; omega
  have hal' : (a : Int) < ss.length := by omega
  obtain ⟨b0, o0, u0, rfl, hbb, hcu, htu⟩ := (H1.out.below B1.out).at hal
  have h128 : ss[a].length = 128 := HM.out.1.s _ (List.getElem_mem hal)
  have hgetD : ss.getD a [] = ss[a] := by rw [List.getD_eq_getElem?_getD, List.getElem?_eq_getElem hal]; rfl
  have HG := Lib.hid hgetD
  have HT := Lib.hid htu
  have H128 := Lib.hid h128
  obtain ⟨A3, c3, rfl, -, -, -, -⟩ := htu
  clear h128 hgetD
  gi_wp2_with fail
  refine ⟨trivial, ?_⟩
  refine (callsIn_wide.2 (clone_any _ ss[a] w1 (B := w.heap.size) B1.out.size HT.out (by rw [H128.out]; omega))).mono ?_
  rintro e w2 ⟨y, rfl, hoy, b2⟩
  have B2 := Lib.hid (B1.out.trans (b2.mono B1.out.size))
  have C2 := Lib.hid ((b2.block _ (heap_lt C0.out)).trans C0.out)
  have C3 : Hid (Boxed w2 (w.heap.size + 1) 3 (.int .i64 (a : Int))) := Lib.hid ((b2.block _ C1.out.lt).trans C1.out)
  have hoy' : w2.ownsRow w1.heap.size 5 1 y 128 (ss[a].map u8) := by rw [← H128.out]; exact hoy
  rcases hoy'.2 with ⟨_, e⟩ | ⟨g, cap, cur, e, hge, hgc, -⟩
  · cases e
  subst e
  have OY := Lib.hid hoy'
  have GC := Lib.hid hgc
  have LG := Lib.hid (show w.heap.size + 1 < w1.heap.size ∧ w1.heap.size ≤ g from ⟨C1.out.lt, hge⟩)
  have hcw : ∀ o : Obj, (w2.alloc o).cell? ⟨w.heap.size, 1, none⟩ = some (.slice A2 ws.length c2) := fun o => ((below_new w2 o).cell (p := ⟨w.heap.size, 1, none⟩) (heap_lt C2.out)).trans (cell2_of C2.out).2
  clear hoy hoy' b2 hge hgc k0 k1 k2 hcu C0 C1
  gi_wp2_with fail
  have hu0 : Boxed (w2.alloc (.cells #[.slice (some ⟨g, 0, none⟩) 128 cap] 34)) w2.heap.size 34 (.slice (some ⟨g, 0, none⟩) 128 cap) := heap_alloc_self _ _
  have hub : Below w2.heap.size w2 (w2.alloc (.cells #[.slice (some ⟨g, 0, none⟩) 128 cap] 34)) := below_new _ _
  generalize w2.alloc (.cells #[.slice (some ⟨g, 0, none⟩) 128 cap] 34) = u at hu0 hub ⊢
  refine ⟨trivial, ?_⟩
  refine (callsIn_wide.2 (pieces_made A2 ws.length c2 _ _ u)).mono ?_
  rintro e w3 ⟨rfl, he2⟩
  have hBW : Boxed w3 u.heap.size 27 (.slice A2 ws.length c2) := by rw [he2]; exact (Boxed.new u _ _).alloc _
  have hBK : Boxed w3 (u.heap.size + 1) 91 (.func (.func 50) #[] #[]) := by
    rw [he2]
    have := Boxed.new (u.alloc (.cells #[.slice A2 ws.length c2] 27)) 91 (.func (.func 50) #[] #[])
    rwa [World.size_alloc] at this
  have hb2 : Below u.heap.size u w3 := by rw [he2]; exact (below_new _ _).alloc (by simp) _
  clear he2
  have BU := Lib.hid (hub.trans (hb2.mono hub.size))
  have B3 := Lib.hid (B2.out.trans (BU.out.mono B2.out.size))
  have LW : Hid (w.heap.size + 1 < w1.heap.size ∧ w1.heap.size ≤ g ∧ g < w2.heap.size ∧ w2.heap.size < u.heap.size ∧ u.heap.size ≤ w3.heap.size) := Lib.hid ⟨LG.out.1, LG.out.2, heap_lt GC.out, hu0.lt, hb2.size⟩
  have O3 := Lib.hid (owns_below OY.out BU.out)
  have D3 : Hid (Boxed w3 w2.heap.size 34 (.slice (some ⟨g, 0, none⟩) 128 cap)) := Lib.hid ((hb2.block _ hu0.lt).trans hu0)
  have E3 : Hid (Boxed w3 (w.heap.size + 1) 3 (.int .i64 (a : Int))) := Lib.hid ((BU.out.block _ C3.out.lt).trans C3.out)
  have hln : (all128 ws).length = ws.length := by simp [all128]
  have hlk : ∀ k ∈ all128 ws, k ≤ 128 := fun k hk => by rw [List.eq_of_mem_replicate hk]; omega
  have hl128 : ∀ i, i < (all128 ws).length → (all128 ws).getD i 0 = 128 := fun i hi => by
    rw [List.getD_eq_getElem?_getD, List.getElem?_eq_getElem hi]; simp [all128]
  clear hu0 hub hb2 hcw OY GC C2 C3 LG
  gi_wp2_with fail
  refine wpIn_rangeFunc_ownF rfl (by omega) (gf := 74) (lb := #[.pointer (some ⟨u.heap.size, 0, none⟩), .pointer (some ⟨u.heap.size + 1, 0, none⟩)]) rfl trivial (enters_of Try.func74 (by kernel_rfl) rfl)
    (encs := encP) (Kp := KeepP w.heap.size) (S := fun xs : List (Pc w3 w.heap.size ws (all128 ws)) => xs.map (·.i) = List.range ws.length) (Sp := fun _ => True) (N := ws.length) (w0 := w3)
    (fun l J Jx W hW hJ hJx hY h0 => pieces1_whole 2 (by omega) l u.heap.size (u.heap.size + 1) w.heap.size w3 ws (all128 ws) hln hlk HM.out.1.w HM.out.1.fits.m _ (H2.out.below B3.out) (fun _ => True) (fun _ _ _ _ => trivial) (fun W i hi _ => callsIn_wide.2 ((whole_any _ W).mono (by rintro e W' ⟨rfl, rfl⟩; exact ⟨by have := hl128 i hi; rw [List.getD_eq_getElem?_getD, List.getElem?_eq_getElem hi] at this; rw [show (all128 ws)[i] = 128 from this]; rfl, rfl⟩))) J Jx W hJ hY (by have := hW.size; have := LW.out; omega) (hW.mono (by have := LW.out; omega)) ((hW.block _ hBW.lt).trans hBW) ((hW.block _ hBK.lt).trans hBK) trivial h0)
    KeepP.trans (fun W l o o' hl h ho _ => KeepP.putObj W l o o' (by have := LW.out; omega) h ho) (Below.refl _ _) (fun _ => rfl)
    (fun pre W => (W.ownsRow w1.heap.size 5 1 (.slice (some ⟨g, 0, none⟩) 128 cap) 128 ((seeAll ss[a] a (came pre)).map u8) ∧ Boxed W w2.heap.size 34 (.slice (some ⟨g, 0, none⟩) 128 cap) ∧ Boxed W (w.heap.size + 1) 3 (.int .i64 (a : Int))) ∧ Below w.heap.size w3 W)
    (fun _ _ _ => False)
    (OwnFrom.and (fun s W W' row h hg hr => ⟨owns_turned h.1 hg (fun r e => (hr r e).2), heap_turned h.2.1 hg (fun r e => (hr r e).2), heap_turned h.2.2 hg (fun r e => (hr r e).2)⟩) (ownFrom_below (by have := LW.out; omega) (by have := LW.out; omega)))
    (fun _ _ _ _ _ hs _ _ => hs)
    ⟨⟨O3.out, D3.out, E3.out⟩, Below.refl _ _⟩
    (fun x => { tmps := #[.agg #[.slice (some ⟨b0, o0, none⟩) ss.length c1, .slice A2 ws.length c2], .int .i64 (a : Int), .pointer (some ⟨w.heap.size, 0, none⟩), .pointer (some ⟨w.heap.size + 1, 0, none⟩), .slice none 0 0, .int .i64 0, .int .i64 0, .pointer (some ⟨w2.heap.size, 0, none⟩), .int .i64 (ws[x.i]'x.hi).1, x.v,
      .agg #[.slice (some ⟨b0, o0, none⟩) ss.length c1, .slice A2 ws.length c2], .int .i64 (a : Int), .int .i64 0, .int .i64 0, .bool false, undef, .pointer (some ⟨w.heap.size, 0, none⟩), .slice (some ⟨b0, o0, none⟩) ss.length c1, .int .i64 (a : Int), .pointer (some ⟨b0, o0 + a, none⟩), .slice A3 ss[a].length c3, .slice (some ⟨g, 0, none⟩) 128 cap,
      .pointer (some ⟨w.heap.size, 1, none⟩), .slice A2 ws.length c2, .func (.func 74) #[] #[.pointer (some ⟨u.heap.size, 0, none⟩), .pointer (some ⟨u.heap.size + 1, 0, none⟩)], .int .i64 (ws[x.i]'x.hi).1, x.v, undef, undef, undef, undef, undef, undef, undef], defers := [] }) ?assign ?body ?done ?stop
  case assign =>
    intro l x W K hK
    dsimp only [encP]
    gi_wp2
    exact hK
  case body =>
    rintro l pre x W ⟨⟨hs, hd, he⟩, hB⟩ hlt
    obtain ⟨hok0, hok1, hok2⟩ := HM.out.1.w _ (List.getElem_mem x.hi)
    have h128 : (seeAll ss[a] a (came pre)).length = 128 := by
      rw [seeAll_length (fun p hp => by rw [H128.out]; exact came_le HM.out.1.w pre p hp), H128.out]
    have hpl : ((ws[x.i]'x.hi).2.take ((all128 ws).getD x.i 0)).length ≤ 128 := by rw [List.length_take]; omega
    have hx : Txt W w.heap.size x.v ((ws[x.i]'x.hi).2.take ((all128 ws).getD x.i 0)) := x.ht.below hB
    have hsnoc : seeAll ss[a] a (came (pre ++ [x])) = if (ws[x.i]'x.hi).1.toNat = a then lay (seeAll ss[a] a (came pre)) ((ws[x.i]'x.hi).2.take ((all128 ws).getD x.i 0)) else seeAll ss[a] a (came pre) := by
      rw [came_snoc, seeAll_snoc]
    have d0 := hd.cell
    have e0 := he.cell
    by_cases hea : (ws[x.i]'x.hi).1 = (a : Int)
    · rw [if_pos (by omega)] at hsnoc
      have hlay := CallsIn.inRound l (F := Fence.wide) (n := 0) (callsIn_wide.2 (lay_any g cap w1.heap.size (seeAll ss[a] a (came pre)) ((ws[x.i]'x.hi).2.take ((all128 ws).getD x.i 0)) x.v W (by rw [h128]; exact hs) hx (by rw [h128]; exact hpl)))
      rw [h128] at hlay
      have HSN := Lib.hid hsnoc
      have HD := Lib.hid hd
      have HE := Lib.hid he
      have HLAY := Lib.hid hlay
      have HG2 := Lib.hid (owns_block hs (g := g) rfl)
      rw [hea]
      clear hs hd he h128 hpl hx hsnoc hlay hok2
      gi_wp2_with (refine ⟨trivial, ?_⟩; refine HLAY.out.mono ?_; rintro e W' ⟨⟨v, rfl⟩, hrow', hgr⟩)
      obtain ⟨cur2, hgc2, -⟩ := HG2.out
      have hw2 : Below w.heap.size W W' := (Below.refl _ _).grown hgr (Nat.le_trans (by have := LW.out; omega) hB.size) (fun k hk => by cases hk; have := LW.out; omega)
      refine ⟨KeepsOthers.of_grownBy hgr (fun j o e ho => by cases e; rw [hgc2] at ho; cases ho; rfl), ⟨hw2, fun bn t v ht hb => heap_other ht hb hgc2 hgr⟩, ⟨?_, heap_other (by decide) HD.out hgc2 hgr, heap_other (by decide) HE.out hgc2 hgr⟩, hB.trans hw2⟩
      rw [HSN.out]
      exact hrow'
    · rw [if_neg (by omega)] at hsnoc
      have HSN := Lib.hid hsnoc
      have HD := Lib.hid hd
      have HE := Lib.hid he
      have HS := Lib.hid hs
      have hea' : ((ws[x.i]'x.hi).1 == (a : Int)) = false := by rw [beq_eq_false_iff_ne]; exact hea
      clear hs hd he h128 hpl hx hsnoc hok2
      gi_wp2_with fail
      refine ⟨KeepsOthers.refl _, KeepP.refl _ _, ⟨?_, HD.out, HE.out⟩, hB⟩
      rw [HSN.out]
      exact HS.out
  case done =>
    rintro D xs W hD hS ⟨⟨hs, hd, he⟩, hB⟩ hK
    rw [came_all hln hS] at hs
    have d0 := hd.cell
    have hres : (readS ss ws (a : Int)) = seeAll ss[a] a (piecesOf ws (all128 ws)) := by rw [HRS.out, HG.out]
    have hrl : (readS ss ws (a : Int)).length = 128 := by
      rw [hres, seeAll_length (fun p hp => by rw [H128.out]; exact (pieces_le HM.out.1.w p hp).1), H128.out]
    have HRL := Lib.hid hrl
    have HRE := Lib.hid hres
    have HS := Lib.hid hs
    clear hs hd he hres hrl
    gi_wp2_with fail
    refine ⟨by simp, .inl ⟨_, _, rfl, run_takeDeferred hK, ?_⟩⟩
    have hturn : ∀ r, some D = some r → ∃ o : Obj, W.heap[r]? = some o ∧ o.isCells = false := fun r e => by cases e; exact ⟨_, hK, rfl⟩
    refine ⟨_, results_tmp2 rfl _ _ _, _, rfl, ?_, ?_⟩
    · rw [HRL.out, HRE.out]
      exact owns_mono (owns_turned HS.out (grownBy_putObj' W D (.deferred none)) hturn) (by have := LW.out; omega)
    · exact B3.out.trans (hB.trans ((Below.refl _ _).grown (grownBy_putObj' W D (.deferred none)) (by have := (Nat.le_trans B3.out.size hB.size); exact this) (fun k hk => by cases hk; have := LW.out; omega)))
  case stop =>
    rintro D c pre W _ _ h _
    exact h.elim

theorem read_any (d : Value) (ss : List Bs) (ws : List Wr) (n : Int) (w : World) (h : DiskIn w w.heap.size d ss ws) :
    Calls Try.prog 27 #[d, .int .i64 n] w fun e w' => ∃ y, e = .returned (.tuple #[y, .int .i64 (atE ss ws n)]) ∧ w'.ownsRow w.heap.size 5 1 y (readS ss ws n).length ((readS ss ws n).map u8) ∧ Below w.heap.size w w' := by
  by_cases h0 : atE ss ws n = 0
  · rw [h0]; exact read_good d ss ws n w h h0
  · exact read_bad d ss ws n w h h0
end Go.Proofs.Ytdjoflhcagfmiaa
