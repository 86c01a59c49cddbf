/-
 The program's package way: follow.
 Conditions: none.
-/
import Derived.Test.YtemmgmjhomgbbaaGreatVGWayPG
import Derived.Test.YtemmgmjhomgbbaaGreatVGWayRefF
import Derived.Test.YtemmgmjhomgbbaaGreatVGPlnRefC
set_option linter.unusedVariables false
set_option linter.unusedSimpArgs false
set_option maxRecDepth 100000
namespace Go.Proofs.YtemmgmjhomgbbaaGreat
open Go.RowKit

theorem infoFlank2 : (Tryz.prog.info? 140).map (·.size) = some 2 := by kernel_rfl
theorem infoWalk : (Tryz.prog.info? 117).map (·.size) = some 24 := by kernel_rfl
theorem wk_one {F : Nat → Value} (hF : ∀ k, k < 14 → (F k).oneCell' = true) (a b t0 t1 nr : Int) {h2 y0 y1 y2 o : Value} (e2 : h2.oneCell' = true) (e3 : y0.oneCell' = true) (e4 : y1.oneCell' = true) (e5 : y2.oneCell' = true) (e6 : o.oneCell' = true) : (wkRow F a b h2 t0 t1 y0 y1 y2 nr o).all (·.oneCell') = true := by
 have h0 := hF 0 (by omega)
 have h1 := hF 1 (by omega)
 have h2' := hF 2 (by omega)
 have h3 := hF 3 (by omega)
 have h4 := hF 4 (by omega)
 have h5 := hF 5 (by omega)
 have h6 := hF 6 (by omega)
 have h7 := hF 7 (by omega)
 have h8 := hF 8 (by omega)
 have h9 := hF 9 (by omega)
 have h10 := hF 10 (by omega)
 have h11 := hF 11 (by omega)
 have h12 := hF 12 (by omega)
 have h13 := hF 13 (by omega)
 simp [wkRow, h0, h1, h2', h3, h4, h5, h6, h7, h8, h9, h10, h11, h12, h13, e2, e3, e4, e5, e6]
 exact ⟨rfl, rfl, rfl, rfl, rfl⟩
theorem list_one {α : Type} {T : TypeId} {sz : Nat} {R : El α} {W : World} {lo : Nat} {v : Value} {l : List α} (h : ListOwn T sz R W lo v l) : v.oneCell' = true := by
 obtain ⟨A, c, rfl⟩ := h.slice
 rfl
theorem listIn_one {α : Type} {sz : Nat} {R : El α} {W : World} {lo : Nat} {v : Value} {l : List α} (h : ListIn sz R W lo v l) : v.oneCell' = true := by
 obtain ⟨A, c, rfl, -, -⟩ := h.slice
 rfl
/-- The first thing that follow makes. -/
def FolB (q w : World) (lo g : Nat) (F : Nat → Value) (p : Pl) (r : Rt) : Prop :=
 WkS w lo g F p r (0, 0, []) (.slice none 0 0) (0, 0) (.slice none 0 0) (.slice none 0 0) (.slice none 0 0) zWy (.slice none 0 0) [] ∧ (∀ k, k < 14 → (F k).oneCell' = true) ∧ Below lo q w
/-- What follow answers. -/
def FolP (w : World) (p : Pl) (r : Rt) (e : Ending) (w' : World) : Prop :=
 ∃ (F : Nat → Value) (a b : Int) (h2 : Value) (t0 t1 : Int) (y0 y1 y2 : Value) (x : Wy) (o : Value) (l : List Jn) (E : Int), e = .returned (.tuple #[.agg (wkRow F a b h2 t0 t1 y0 y1 y2 x.near o), .int .i64 E]) ∧ (wkRow F a b h2 t0 t1 y0 y1 y2 x.near o).all (·.oneCell') = true ∧
  WyOwn w' w.heap.size y0 y1 y2 x ∧ JoinsOwn w' w.heap.size o l ∧ ((Hangs p r ∧ E = 0 ∧ x = wayR p r ∧ l = leftL p r (allR r).length) ∨ (¬ Hangs p r ∧ E = 90 ∧ x = zWy ∧ l = [])) ∧ Below w.heap.size w w'
def zF (k : Nat) : Value := (#[.int .i64 0, .int .i64 0, .slice none 0 0, .slice none 0 0, .slice none 0 0, .slice none 0 0, .int .i64 0, .int .i64 0, .int .i64 0, .slice none 0 0, .slice none 0 0, .slice none 0 0, .int .i64 0, .slice none 0 0] : Array Value).getD k undef
theorem zF_one : ∀ k, k < 14 → (zF k).oneCell' = true := fun k hk => match k, hk with | 0, _ => rfl | 1, _ => rfl | 2, _ => rfl | 3, _ => rfl | 4, _ => rfl | 5, _ => rfl | 6, _ => rfl | 7, _ => rfl | 8, _ => rfl | 9, _ => rfl | 10, _ => rfl | 11, _ => rfl | 12, _ => rfl | 13, _ => rfl
set_option maxHeartbeats 8000000 in
theorem concat_own (b : Nat) (A B : Option Addr) (n c k d : Nat) (l m : List Int) (w : World) (hb : w.heap[b]? = some (.cells #[.slice A n c, .slice B k d] 61 (0, 0)))
  (h1 : IntsIn w w.heap.size (.slice A n c) l) (h2 : IntsIn w w.heap.size (.slice B k d) m) (hn : n = l.length) (hk : k = m.length) (hp : 1 ≤ n + k) (hnk : n + k ≤ 1000) :
  Calls Tryz.prog 88 #[.slice (some ⟨b, 0, none⟩) 2 2] w fun e w' => ∃ A' c' N, e = .returned (.slice A' N c') ∧ N = (l ++ m).length ∧ IntsOwn w' w.heap.size (.slice A' N c') (l ++ m) ∧ Below w.heap.size w w' := by
 have X := Lib.hid hb
 have H1 := Lib.hid h1
 have H2 := Lib.hid h2
 have HLN : Hid (n = l.length ∧ k = m.length) := Lib.hid ⟨hn, hk⟩
 have HPK : Hid (1 ≤ n + k ∧ n + k ≤ 1000) := Lib.hid ⟨hp, hnk⟩
 obtain ⟨N, hN⟩ : ∃ N, N = n + k := ⟨_, rfl⟩
 have HN := Lib.hid hN
 have hw1 : IntKind.i64.wrap (n : Int) = n := wrap_id (by omega) (by omega)
 have hw2 : IntKind.i64.wrap ((n : Int) + k) = (N : Int) := by rw [wrap_id (by omega) (by omega)]; omega
 have hb1 : n ≤ 9223372036854775807 := by omega
 have hb2 : k ≤ 9223372036854775807 := by omega
 have hd1 : ¬ (n : Int) < 0 := by omega
 have hd2 : ¬ (N : Int) < 0 := by omega
 obtain ⟨i0, hi, hz0, hz1, hz2⟩ := info_parts infoInt
 have I0 := Lib.hid hi
 have I1 := Lib.hid hz0
 have I2 := Lib.hid hz1
 have I3 := Lib.hid hz2
 clear hi hz0 hz1 hz2 hb h1 h2 hn hk hp hnk hN
 have TOT : Hid (∀ i : Nat, i ≤ 2 → i = 0 ∨ i = 1 ∨ i = 2) := Lib.hid (fun i h => by omega)
 go_enter Tryz.func88, Tryz.ntmps88
 go_wp2_with fail
 go_loopw [3, 11] (fun s3 s11 wr => wr = w ∧ ((s11 = .int .i64 0 ∧ s3 = .int .i64 0) ∨ (s11 = .int .i64 1 ∧ s3 = .int .i64 n) ∨ (s11 = .int .i64 2 ∧ s3 = .int .i64 N))) (fun _ s11 _ => 2 - (intOf s11).toNat)
 case atStart => exact ⟨rfl, .inl ⟨rfl, rfl⟩⟩
 case round =>
  obtain ⟨rfl, hc⟩ := hrel
  rcases hc with ⟨rfl, rfl⟩ | ⟨rfl, rfl⟩ | ⟨rfl, rfl⟩
  ·obtain ⟨k0, k1⟩ := cell2_of X.out
   go_wp2_with fail
   go_roundw
   case measure => simp [intOf]
   case rel => exact ⟨trivial, .inr (.inl ⟨by go_num, by go_num⟩)⟩
  ·obtain ⟨k0, k1⟩ := cell2_of X.out
   go_wp2_with fail
   go_roundw
   case measure => simp [intOf]
   case rel => exact ⟨trivial, .inr (.inr ⟨by go_num, by go_num⟩)⟩
  ·go_wp2_with fail
   refine (grow_any N (by have := HPK.out; have := HN.out; omega) (by have := HPK.out; have := HN.out; omega) _).mono ?_
   rintro e w1 ⟨A1, c1, rfl, hown, b1⟩
   have O1 : Hid (ListOwn 3 1 IntR w1 wr.heap.size (.slice A1 0 c1) ([] : List Int)) := Lib.hid ⟨[], hown, rfl, Nat.zero_le _, (fun _ h => by cases h), fun j ys x h => by simp at h⟩
   have B1 := Lib.hid b1
   clear hown b1
   go_wp2_with fail
   go_loopw [6, 27] (fun s6 s27 ww => Below wr.heap.size wr ww ∧ ∃ A6 c6, (s27 = .int .i64 0 ∧ s6 = .slice A6 0 c6 ∧ ListOwn 3 1 IntR ww wr.heap.size (.slice A6 0 c6) ([] : List Int)) ∨ (s27 = .int .i64 1 ∧ s6 = .slice A6 n c6 ∧ ListOwn 3 1 IntR ww wr.heap.size (.slice A6 n c6) l) ∨ (s27 = .int .i64 2 ∧ s6 = .slice A6 N c6 ∧ ListOwn 3 1 IntR ww wr.heap.size (.slice A6 N c6) (l ++ m))) (fun _ s27 _ => 2 - (intOf s27).toNat)
   case atStart => exact ⟨B1.out, _, _, .inl ⟨rfl, rfl, O1.out⟩⟩
   case round =>
    obtain ⟨hbw, A6, c6, hc⟩ := hrel
    have BW := Lib.hid hbw
    have XW := Lib.hid ((hbw.block _ (heap_lt X.out)).trans X.out)
    clear hbw O1 B1
    rcases hc with ⟨rfl, rfl, how⟩ | ⟨rfl, rfl, how⟩ | ⟨rfl, rfl, how⟩
    ·have OW := Lib.hid how
     clear how
     obtain ⟨k0, k1⟩ := cell2_of XW.out
     obtain ⟨zss, hy1, hy2, hy3, hy4, hy5, hy6, hy7⟩ := (((H1.out).below intR BW.out).more intR BW.out.size).cells (by omega) intR_full intR_cells
     obtain ⟨yss, ho, hl, hmx, hs2, hr⟩ := OW.out
     have Y1 := Lib.hid hy1
     have Y2 := Lib.hid hy2
     have Y3 := Lib.hid hy3
     have Y4 := Lib.hid hy4
     have Y6 := Lib.hid hy6
     have Y7 := Lib.hid hy7
     have Z0 := Lib.hid ho
     have Z1 := Lib.hid hl
     have Z2 := Lib.hid hs2
     have Z3 := Lib.hid hr
     have YL : Hid (zss.flatten.length = n * 1) := Lib.hid (by rw [flat_length _ hy2, hy1, HLN.out.1])
     clear hy1 hy2 hy3 hy4 hy5 hy6 hy7 ho hl hmx hs2 hr
     go_wp2_with ((with_reducible show wpList _ _ _ (⟨some 33, _, _, _, _, _⟩ :: _) _ _); refine wpList_append_list rfl (.tmp 31) (.tmp 32) _ rfl Tryz.underlying61 I0.out I1.out rfl I2.out (by decide) I3.out (by decide) rfl (by have := Z0.out; rw [show ([] : List Int).length = 0 from rfl] at this; exact this) rfl YL.out Y4.out Y7.out Y6.out (by have := HPK.out; omega) BW.out.size ?_; intro v3 w3 hown3 hgrow3; rw [Nat.zero_add] at hown3; obtain ⟨A3, c3, rfl⟩ := own_sliceN hown3; have O3 := Lib.hid hown3; have B3 := Lib.hid (BW.out.grown hgrow3 BW.out.size (own_ge Z0.out)); clear hown3 hgrow3)
     have OC := Lib.hid (own_cat (R := IntR) (sz := 1) intF O3.out (by rw [show ([] : List Int).length = 0 from rfl, Nat.zero_add]; exact HLN.out.1) Z1.out Y1.out Z2.out Y2.out Z3.out Y3.out (by have := HPK.out; have := HN.out; unfold maxLen; omega))
     go_roundw
     case measure => simp [intOf]
     case rel => exact ⟨B3.out, _, _, .inr (.inl ⟨by go_num, rfl, OC.out⟩)⟩
    ·have OW := Lib.hid how
     clear how
     obtain ⟨k0, k1⟩ := cell2_of XW.out
     obtain ⟨zss, hy1, hy2, hy3, hy4, hy5, hy6, hy7⟩ := (((H2.out).below intR BW.out).more intR BW.out.size).cells (by omega) intR_full intR_cells
     obtain ⟨yss, ho, hl, hmx, hs2, hr⟩ := OW.out
     have Y1 := Lib.hid hy1
     have Y2 := Lib.hid hy2
     have Y3 := Lib.hid hy3
     have Y4 := Lib.hid hy4
     have Y6 := Lib.hid hy6
     have Y7 := Lib.hid hy7
     have Z0 := Lib.hid ho
     have Z1 := Lib.hid hl
     have Z2 := Lib.hid hs2
     have Z3 := Lib.hid hr
     have YL : Hid (zss.flatten.length = k * 1) := Lib.hid (by rw [flat_length _ hy2, hy1, HLN.out.2])
     clear hy1 hy2 hy3 hy4 hy5 hy6 hy7 ho hl hmx hs2 hr
     go_wp2_with ((with_reducible show wpList _ _ _ (⟨some 33, _, _, _, _, _⟩ :: _) _ _); refine wpList_append_list rfl (.tmp 31) (.tmp 32) _ rfl Tryz.underlying61 I0.out I1.out rfl I2.out (by decide) I3.out (by decide) rfl (by have := Z0.out; rw [← HLN.out.1] at this; exact this) rfl YL.out Y4.out Y7.out Y6.out (by have := HPK.out; omega) BW.out.size ?_; intro v3 w3 hown3 hgrow3; rw [← HN.out] at hown3; obtain ⟨A3, c3, rfl⟩ := own_sliceN hown3; have O3 := Lib.hid hown3; have B3 := Lib.hid (BW.out.grown hgrow3 BW.out.size (own_ge Z0.out)); clear hown3 hgrow3)
     have OC := Lib.hid (own_cat (R := IntR) (sz := 1) intF O3.out (by rw [← HLN.out.1, ← HLN.out.2]; exact HN.out) Z1.out Y1.out Z2.out Y2.out Z3.out Y3.out (by have := HPK.out; have := HN.out; unfold maxLen; omega))
     go_roundw
     case measure => simp [intOf]
     case rel => exact ⟨B3.out, _, _, .inr (.inr ⟨by go_num, rfl, OC.out⟩)⟩
    ·have OW := Lib.hid how
     clear how
     go_wp2_with fail
     go_ret
     exact ⟨_, _, _, rfl, by rw [List.length_append, ← HLN.out.1, ← HLN.out.2]; exact HN.out, OW.out, BW.out⟩
theorem in_nil {α : Type} {sz : Nat} {R : El α} {W : World} {B : Nat} : ListIn sz R W B (.slice none 0 0) ([] : List α) := ⟨none, 0, rfl, by simp, Nat.zero_le _, fun _ => rfl, fun h => absurd h (by simp)⟩
set_option maxHeartbeats 16000000 in
theorem pfollow_any (v y : Value) (p : Pl) (r : Rt) (w : World) (h : PlanV w w.heap.size v p) (h' : RouteV w w.heap.size y r) (hr : RouteIn p r) :
  Calls Tryz.prog 60 #[v, y] w fun e w' => FolP w p r e w' := by
 have HR := Lib.hid hr
 obtain ⟨v2, v3, v4, v5, rfl, hin⟩ := h
 obtain ⟨d3, d4, d5, rfl, hrt⟩ := h'
 have HIN := Lib.hid hin
 have HRT := Lib.hid hrt
 obtain ⟨A2, c2, rfl, -, -⟩ := hin.secs.slice
 obtain ⟨A3, c3, rfl, -, -⟩ := hin.pts.slice
 obtain ⟨A4, c4, rfl, -, -⟩ := hin.sigs.slice
 obtain ⟨A5, c5, rfl, -, -⟩ := hin.routes.slice
 obtain ⟨D3, f3, rfl, -, -⟩ := hrt.path.slice
 obtain ⟨D4, f4, rfl, -, -⟩ := hrt.over.slice
 obtain ⟨D5, f5, rfl, hcl5, hcm5⟩ := hrt.flanks.slice
 obtain ⟨n2, hn2⟩ : ∃ n, n = p.secs.length := ⟨_, rfl⟩
 obtain ⟨n3, hn3⟩ : ∃ n, n = p.pts.length := ⟨_, rfl⟩
 obtain ⟨n4, hn4⟩ : ∃ n, n = p.sigs.length := ⟨_, rfl⟩
 obtain ⟨n5, hn5⟩ : ∃ n, n = p.routes.length := ⟨_, rfl⟩
 obtain ⟨l3, hl3⟩ : ∃ n, n = r.path.length := ⟨_, rfl⟩
 obtain ⟨l4, hl4⟩ : ∃ n, n = r.over.length := ⟨_, rfl⟩
 obtain ⟨l5, hl5⟩ : ∃ n, n = r.flanks.length := ⟨_, rfl⟩
 have HLN : Hid (l3 = r.path.length ∧ l4 = r.over.length ∧ 1 ≤ l3 + l4 ∧ l3 + l4 ≤ 1000) := Lib.hid (by have := hr.route.path; have := hr.route.over; omega)
 have HL5 : Hid (l5 = r.flanks.length ∧ l5 ≤ 3) := Lib.hid (by have := hr.route.flank; omega)
 have J2 : Hid (SectsIn w w.heap.size (.slice A2 n2 c2) p.secs) := Lib.hid (by rw [hn2]; exact hin.secs)
 have J6 : Hid (SigsIn w w.heap.size (.slice A4 n4 c4) p.sigs) := Lib.hid (by rw [hn4]; exact hin.sigs)
 have J3 : Hid (IntsIn w w.heap.size (.slice D3 l3 f3) r.path) := Lib.hid (by rw [hl3]; exact hrt.path)
 have J4 : Hid (IntsIn w w.heap.size (.slice D4 l4 f4) r.over) := Lib.hid (by rw [hl4]; exact hrt.over)
 have J5 : Hid (JoinsIn w w.heap.size (.slice D5 l5 f5) r.flanks) := Lib.hid (by rw [hl5]; exact hrt.flanks)
 rw [← hn2, ← hn3, ← hn4, ← hn5, ← hl3, ← hl4, ← hl5]
 have hl5b : l5 ≤ 3 := HL5.out.2
 clear hn2 hn3 hn4 hn5 hl3 hl4 hl5 hin hrt hcl5 hcm5 hr
 obtain ⟨q, hq, hx2, hx3, hx4, hsz, hbq⟩ := boxes3 w (.cells #[.int .i64 p.ver, .int .i64 p.par, .slice A2 n2 c2, .slice A3 n3 c3, .slice A4 n4 c4, .slice A5 n5 c5] 27) (.cells #[.int .i64 r.id, .int .i64 r.entry, .int .i64 r.exit, .slice D3 l3 f3, .slice D4 l4 f4, .slice D5 l5 f5, .int .i64 r.timer] 64) (.cells #[.int .i64 0, .int .i64 0, .slice none 0 0, .slice none 0 0, .slice none 0 0, .slice none 0 0, .int .i64 0, .int .i64 0, .int .i64 0, .slice none 0 0, .slice none 0 0, .slice none 0 0, .int .i64 0, .slice none 0 0, .int .i64 0, .int .i64 0, .slice none 0 0, .int .i64 0, .int .i64 0, .slice none 0 0, .slice none 0 0, .slice none 0 0, .int .i64 0, .slice none 0 0] 117)
 have X2 := Lib.hid hx2
 have X3 := Lib.hid hx3
 have X4a := Lib.hid hx4
 have BQ := Lib.hid hbq
 have LOW := Lib.hid hbq.size
 have HI2 := Lib.hid ((J2.out.below secR_ hbq).more secR_ hbq.size)
 have HI6 := Lib.hid ((J6.out.below sigR hbq).more sigR hbq.size)
 have HI3 := Lib.hid ((J3.out.below intR hbq).more intR hbq.size)
 have HI4 := Lib.hid ((J4.out.below intR hbq).more intR hbq.size)
 have HI5 := Lib.hid ((J5.out.below joinR hbq).more joinR hbq.size)
 clear hx2 hx3 hx4 hbq hsz J2 J6 J3 J4 J5
 go_enter Tryz.func60, Tryz.ntmps60
 go_upto_region 1 with fail
 rw [← hq]
 clear hq
 obtain ⟨p4, hp4⟩ : ∃ n, n = w.heap.size + 1 + 1 := ⟨_, rfl⟩
 rw [← hp4] at X4a ⊢
 have X4 : Hid (q.heap[p4]? = some (.cells #[.int .i64 0, .int .i64 0, .slice none 0 0, .slice none 0 0, .slice none 0 0, .slice none 0 0, .int .i64 0, .int .i64 0, .int .i64 0, .slice none 0 0, .slice none 0 0, .slice none 0 0, .int .i64 0, .slice none 0 0, .int .i64 0, .int .i64 0, .slice none 0 0, .int .i64 0, .int .i64 0, .slice none 0 0, .slice none 0 0, .slice none 0 0, .int .i64 0, .slice none 0 0] 117 (0, 0))) := X4a
 have P4 : Hid (p4 < q.heap.size) := Lib.hid (heap_lt X4.out)
 have PL4 : Hid (w.heap.size ≤ p4) := Lib.hid (by omega)
 clear hp4 X4a
 go_cut [6] from 10 to 18 (fun s6 wx => ∃ g F, s6 = .pointer (some ⟨g, 0, none⟩) ∧ FolB q wx q.heap.size g F p r)
 case first =>
  refine wp_region_held_drew (S := fun v => Below q.heap.size q v) (by kernel_rfl) (Below.refl q.heap.size q).drew (fun hHeld => ?_)
  refine tkc 0 hHeld (fun w' hSw => cell6_of ((hSw.block _ (heap_lt X2.out)).trans X2.out)) ?_;refine tkc 1 hHeld (fun w' hSw => cell7_of ((hSw.block _ (heap_lt X3.out)).trans X3.out)) ?_;refine tk 2 hHeld ?_;refine tkc 3 hHeld (fun w' hSw => cell7_of ((hSw.block _ (heap_lt X3.out)).trans X3.out)) ?_;refine tk 4 hHeld ?_;refine tkc 5 hHeld (fun w' hSw => cell7_of ((hSw.block _ (heap_lt X3.out)).trans X3.out)) ?_
  have tb := (Below.refl q.heap.size q).drew
  generalize q.drew = q0 at tb hHeld ⊢
  have HB := Lib.hid tb
  clear tb
  refine wpAnyH_ready (rs := [6, 9]) (by kernel_rfl) (by simp) ?_
  refine AllReadyH.cons rfl (fun K hK => ?_) (AllReadyH.cons rfl (fun K hK => ?_) AllReadyH.nil)
  ·go_simp
   have tb := HB.out.alloc HB.out.size (.cells #[.slice D3 l3 f3, .slice D4 l4 f4] 61)
   have t16 := heap_alloc_self q0 (.cells #[.slice D3 l3 f3, .slice D4 l4 f4] 61)
   refine hK.out _ _ ?_ fun hHeld => ?_;exact tb;clear hK K;try simp only [zn, Act.put]
   generalize q0.alloc (.cells #[.slice D3 l3 f3, .slice D4 l4 f4] 61) = q1 at tb t16 hHeld ⊢
   obtain ⟨p16, hp16⟩ : ∃ n, n = q0.heap.size := ⟨_, rfl⟩
   rw [← hp16] at t16 ⊢
   have HB' := Lib.hid tb
   have X16 := Lib.hid t16
   clear tb t16 hp16
   clear HB
   have HB := HB'
   clear HB'
   refine wpAnyH_ready (rs := [7, 9]) (by kernel_rfl) (by simp) ?_
   refine AllReadyH.cons rfl (fun K hK => ?_) (AllReadyH.cons rfl (fun K hK => ?_) AllReadyH.nil)
   ·go_simp
    refine (concat_own p16 _ _ _ _ _ _ r.path r.over q1 X16.out ((HI3.out.below intR HB.out).more intR HB.out.size) ((HI4.out.below intR HB.out).more intR HB.out.size) HLN.out.1 HLN.out.2.1 HLN.out.2.2.1 HLN.out.2.2.2).mono ?_
    rintro e q2 ⟨AL, cL, nl, rfl, hnl, hol, b⟩
    have HNL : Hid (nl = (allR r).length) := Lib.hid hnl
    have OL : Hid (IntsOwn q2 q.heap.size (.slice AL nl cL) (allR r)) := Lib.hid (hol.mono HB.out.size)
    have HB' := Lib.hid (HB.out.trans (b.mono HB.out.size))
    clear b hnl hol
    try go_wp2_with fail
    refine hK.out _ _ ?_ fun hHeld => ?_;exact HB'.out;clear hK K;try simp only [zn, Act.put]
    refine tk 8 hHeld ?_
    clear HB
    have HB := HB'
    clear HB'
    refine tkr 9 (fun K hK => ?_)
    ·go_simp
     have tb := HB.out.alloc HB.out.size (.cells #[.int .i64 0, .int .i64 0, .slice none 0 0, .slice none 0 0, .slice none 0 0, .slice none 0 0, .int .i64 0, .int .i64 0, .int .i64 0, .slice none 0 0, .slice none 0 0, .slice none 0 0, .int .i64 0, .slice none 0 0, .int .i64 0, .int .i64 0, .slice none 0 0, .int .i64 0, .int .i64 0, .slice none 0 0, .slice none 0 0, .slice none 0 0, .int .i64 0, .slice none 0 0] 117)
     have t6 := heap_alloc_self q2 (.cells #[.int .i64 0, .int .i64 0, .slice none 0 0, .slice none 0 0, .slice none 0 0, .slice none 0 0, .int .i64 0, .int .i64 0, .int .i64 0, .slice none 0 0, .slice none 0 0, .slice none 0 0, .int .i64 0, .slice none 0 0, .int .i64 0, .int .i64 0, .slice none 0 0, .int .i64 0, .int .i64 0, .slice none 0 0, .slice none 0 0, .slice none 0 0, .int .i64 0, .slice none 0 0] 117)
     have tl := OL.out.below intR (below_new q2 (.cells #[.int .i64 0, .int .i64 0, .slice none 0 0, .slice none 0 0, .slice none 0 0, .slice none 0 0, .int .i64 0, .int .i64 0, .int .i64 0, .slice none 0 0, .slice none 0 0, .slice none 0 0, .int .i64 0, .slice none 0 0, .int .i64 0, .int .i64 0, .slice none 0 0, .int .i64 0, .int .i64 0, .slice none 0 0, .slice none 0 0, .slice none 0 0, .int .i64 0, .slice none 0 0] 117))
     refine hK.out _ _ ?_ fun hHeld => ?_;exact tb;clear hK K;try simp only [zn, Act.put]
     generalize q2.alloc (.cells #[.int .i64 0, .int .i64 0, .slice none 0 0, .slice none 0 0, .slice none 0 0, .slice none 0 0, .int .i64 0, .int .i64 0, .int .i64 0, .slice none 0 0, .slice none 0 0, .slice none 0 0, .int .i64 0, .slice none 0 0, .int .i64 0, .int .i64 0, .slice none 0 0, .int .i64 0, .int .i64 0, .slice none 0 0, .slice none 0 0, .slice none 0 0, .int .i64 0, .slice none 0 0] 117) = q3 at tb t6 tl hHeld ⊢
     obtain ⟨p6, hp6⟩ : ∃ n, n = q2.heap.size := ⟨_, rfl⟩
     rw [← hp6] at t6 ⊢
     have PL6 : Hid (q.heap.size ≤ p6) := Lib.hid (by rw [hp6]; exact HB.out.size)
     have HB' := Lib.hid tb
     have X6' := Lib.hid t6
     have OL' := Lib.hid tl
     clear tb t6 tl hp6
     clear HB OL
     have HB := HB'
     have X6 := X6'
     have OL := OL'
     clear HB' X6' OL'
     refine tkr 10 (fun K hK => ?_)
     ·rw [if_pos (by rfl)]
      refine wp_store_rowS 117 (.tmp 6) (.tmp 18) rfl p6 rfl (c' := #[.int .i64 p.ver, .int .i64 p.par, .slice A2 n2 c2, .slice A3 n3 c3, .slice A4 n4 c4, .slice A5 n5 c5, .int .i64 r.id, .int .i64 r.entry, .int .i64 r.exit, .slice D3 l3 f3, .slice D4 l4 f4, .slice D5 l5 f5, .int .i64 r.timer, .slice AL nl cL, .int .i64 0, .int .i64 0, .slice none 0 0, .int .i64 0, .int .i64 0, .slice none 0 0, .slice none 0 0, .slice none 0 0, .int .i64 0, .slice none 0 0]) rfl X6.out infoWalk rfl (by simp [Value.oneCell']) ?_
      have tb := below_setRow HB.out PL6.out #[.int .i64 p.ver, .int .i64 p.par, .slice A2 n2 c2, .slice A3 n3 c3, .slice A4 n4 c4, .slice A5 n5 c5, .int .i64 r.id, .int .i64 r.entry, .int .i64 r.exit, .slice D3 l3 f3, .slice D4 l4 f4, .slice D5 l5 f5, .int .i64 r.timer, .slice AL nl cL, .int .i64 0, .int .i64 0, .slice none 0 0, .int .i64 0, .int .i64 0, .slice none 0 0, .slice none 0 0, .slice none 0 0, .int .i64 0, .slice none 0 0]
      have tg := grownBy_setRow q3 p6 #[.int .i64 p.ver, .int .i64 p.par, .slice A2 n2 c2, .slice A3 n3 c3, .slice A4 n4 c4, .slice A5 n5 c5, .int .i64 r.id, .int .i64 r.entry, .int .i64 r.exit, .slice D3 l3 f3, .slice D4 l4 f4, .slice D5 l5 f5, .int .i64 r.timer, .slice AL nl cL, .int .i64 0, .int .i64 0, .slice none 0 0, .int .i64 0, .int .i64 0, .slice none 0 0, .slice none 0 0, .slice none 0 0, .int .i64 0, .slice none 0 0]
      have t6 := setRow_heap _ _ _ #[.int .i64 p.ver, .int .i64 p.par, .slice A2 n2 c2, .slice A3 n3 c3, .slice A4 n4 c4, .slice A5 n5 c5, .int .i64 r.id, .int .i64 r.entry, .int .i64 r.exit, .slice D3 l3 f3, .slice D4 l4 f4, .slice D5 l5 f5, .int .i64 r.timer, .slice AL nl cL, .int .i64 0, .int .i64 0, .slice none 0 0, .int .i64 0, .int .i64 0, .slice none 0 0, .slice none 0 0, .slice none 0 0, .int .i64 0, .slice none 0 0] _ _ X6.out
      have tl : IntsOwn (q3.setRow p6 #[.int .i64 p.ver, .int .i64 p.par, .slice A2 n2 c2, .slice A3 n3 c3, .slice A4 n4 c4, .slice A5 n5 c5, .int .i64 r.id, .int .i64 r.entry, .int .i64 r.exit, .slice D3 l3 f3, .slice D4 l4 f4, .slice D5 l5 f5, .int .i64 r.timer, .slice AL nl cL, .int .i64 0, .int .i64 0, .slice none 0 0, .int .i64 0, .int .i64 0, .slice none 0 0, .slice none 0 0, .slice none 0 0, .int .i64 0, .slice none 0 0]) q.heap.size (.slice AL nl cL) (allR r) := own_offT intF OL.out tg (by decide) ⟨_, X6.out⟩
      refine hK.out _ _ ?_ fun hHeld => ?_;exact tb;clear hK K;try simp only [zn, Act.put]
      generalize q3.setRow p6 #[.int .i64 p.ver, .int .i64 p.par, .slice A2 n2 c2, .slice A3 n3 c3, .slice A4 n4 c4, .slice A5 n5 c5, .int .i64 r.id, .int .i64 r.entry, .int .i64 r.exit, .slice D3 l3 f3, .slice D4 l4 f4, .slice D5 l5 f5, .int .i64 r.timer, .slice AL nl cL, .int .i64 0, .int .i64 0, .slice none 0 0, .int .i64 0, .int .i64 0, .slice none 0 0, .slice none 0 0, .slice none 0 0, .int .i64 0, .slice none 0 0] = q4 at tb t6 tl hHeld ⊢
      clear tg
      have FOL : Hid (FolB q q4 q.heap.size p6 (fun k => (#[.int .i64 p.ver, .int .i64 p.par, .slice A2 n2 c2, .slice A3 n3 c3, .slice A4 n4 c4, .slice A5 n5 c5, .int .i64 r.id, .int .i64 r.entry, .int .i64 r.exit, .slice D3 l3 f3, .slice D4 l4 f4, .slice D5 l5 f5, .int .i64 r.timer, .slice AL nl cL] : Array Value).getD k undef) p r) := Lib.hid ⟨⟨t6, PL6.out, HI2.out.below secR_ tb, HI6.out.below sigR tb, rfl, rfl, HI3.out.below intR tb, HI4.out.below intR tb, tl, in_nil, ⟨ListOwn.nil_, ListOwn.nil_, ListOwn.nil_⟩, ListOwn.nil_⟩,
       (fun k hk => match k, hk with | 0, _ => rfl | 1, _ => rfl | 2, _ => rfl | 3, _ => rfl | 4, _ => rfl | 5, _ => rfl | 6, _ => rfl | 7, _ => rfl | 8, _ => rfl | 9, _ => rfl | 10, _ => rfl | 11, _ => rfl | 12, _ => rfl | 13, _ => rfl), tb⟩
      clear tb t6 tl
      refine wpAnyH_done (by kernel_rfl) ?_ _
      go_wp2_with fail
      go_meet
      exact ⟨p6, _, rfl, FOL.out⟩
   ·go_simp
    have tb := HB.out.alloc HB.out.size (.cells #[.int .i64 0, .int .i64 0, .slice none 0 0, .slice none 0 0, .slice none 0 0, .slice none 0 0, .int .i64 0, .int .i64 0, .int .i64 0, .slice none 0 0, .slice none 0 0, .slice none 0 0, .int .i64 0, .slice none 0 0, .int .i64 0, .int .i64 0, .slice none 0 0, .int .i64 0, .int .i64 0, .slice none 0 0, .slice none 0 0, .slice none 0 0, .int .i64 0, .slice none 0 0] 117)
    have t6 := heap_alloc_self q1 (.cells #[.int .i64 0, .int .i64 0, .slice none 0 0, .slice none 0 0, .slice none 0 0, .slice none 0 0, .int .i64 0, .int .i64 0, .int .i64 0, .slice none 0 0, .slice none 0 0, .slice none 0 0, .int .i64 0, .slice none 0 0, .int .i64 0, .int .i64 0, .slice none 0 0, .int .i64 0, .int .i64 0, .slice none 0 0, .slice none 0 0, .slice none 0 0, .int .i64 0, .slice none 0 0] 117)
    have t16 := (heap_alloc_lt q1 (.cells #[.int .i64 0, .int .i64 0, .slice none 0 0, .slice none 0 0, .slice none 0 0, .slice none 0 0, .int .i64 0, .int .i64 0, .int .i64 0, .slice none 0 0, .slice none 0 0, .slice none 0 0, .int .i64 0, .slice none 0 0, .int .i64 0, .int .i64 0, .slice none 0 0, .int .i64 0, .int .i64 0, .slice none 0 0, .slice none 0 0, .slice none 0 0, .int .i64 0, .slice none 0 0] 117) (heap_lt X16.out)).trans X16.out
    refine hK.out _ _ ?_ fun hHeld => ?_;exact tb;clear hK K;try simp only [zn, Act.put]
    generalize q1.alloc (.cells #[.int .i64 0, .int .i64 0, .slice none 0 0, .slice none 0 0, .slice none 0 0, .slice none 0 0, .int .i64 0, .int .i64 0, .int .i64 0, .slice none 0 0, .slice none 0 0, .slice none 0 0, .int .i64 0, .slice none 0 0, .int .i64 0, .int .i64 0, .slice none 0 0, .int .i64 0, .int .i64 0, .slice none 0 0, .slice none 0 0, .slice none 0 0, .int .i64 0, .slice none 0 0] 117) = q5 at tb t6 t16 hHeld ⊢
    obtain ⟨p6, hp6⟩ : ∃ n, n = q1.heap.size := ⟨_, rfl⟩
    rw [← hp6] at t6 ⊢
    have PL6 : Hid (q.heap.size ≤ p6) := Lib.hid (by rw [hp6]; exact HB.out.size)
    have HB' := Lib.hid tb
    have X6' := Lib.hid t6
    have X16' := Lib.hid t16
    clear tb t6 t16 hp6
    clear HB X16
    have HB := HB'
    have X6 := X6'
    have X16 := X16'
    clear HB' X6' X16'
    refine tkr 7 (fun K hK => ?_)
    ·go_simp
     refine (concat_own p16 _ _ _ _ _ _ r.path r.over q5 X16.out ((HI3.out.below intR HB.out).more intR HB.out.size) ((HI4.out.below intR HB.out).more intR HB.out.size) HLN.out.1 HLN.out.2.1 HLN.out.2.2.1 HLN.out.2.2.2).mono ?_
     rintro e q6 ⟨AL, cL, nl, rfl, hnl, hol, b⟩
     have HNL : Hid (nl = (allR r).length) := Lib.hid hnl
     have OL : Hid (IntsOwn q6 q.heap.size (.slice AL nl cL) (allR r)) := Lib.hid (hol.mono HB.out.size)
     have HB' := Lib.hid (HB.out.trans (b.mono HB.out.size))
     have X6' := Lib.hid ((b.block _ (heap_lt X6.out)).trans X6.out)
     clear b hnl hol
     try go_wp2_with fail
     refine hK.out _ _ ?_ fun hHeld => ?_;exact HB'.out;clear hK K;try simp only [zn, Act.put]
     refine tk 8 hHeld ?_
     clear HB X6
     have HB := HB'
     have X6 := X6'
     clear HB' X6'
     refine tkr 10 (fun K hK => ?_)
     ·rw [if_pos (by rfl)]
      refine wp_store_rowS 117 (.tmp 6) (.tmp 18) rfl p6 rfl (c' := #[.int .i64 p.ver, .int .i64 p.par, .slice A2 n2 c2, .slice A3 n3 c3, .slice A4 n4 c4, .slice A5 n5 c5, .int .i64 r.id, .int .i64 r.entry, .int .i64 r.exit, .slice D3 l3 f3, .slice D4 l4 f4, .slice D5 l5 f5, .int .i64 r.timer, .slice AL nl cL, .int .i64 0, .int .i64 0, .slice none 0 0, .int .i64 0, .int .i64 0, .slice none 0 0, .slice none 0 0, .slice none 0 0, .int .i64 0, .slice none 0 0]) rfl X6.out infoWalk rfl (by simp [Value.oneCell']) ?_
      have tb := below_setRow HB.out PL6.out #[.int .i64 p.ver, .int .i64 p.par, .slice A2 n2 c2, .slice A3 n3 c3, .slice A4 n4 c4, .slice A5 n5 c5, .int .i64 r.id, .int .i64 r.entry, .int .i64 r.exit, .slice D3 l3 f3, .slice D4 l4 f4, .slice D5 l5 f5, .int .i64 r.timer, .slice AL nl cL, .int .i64 0, .int .i64 0, .slice none 0 0, .int .i64 0, .int .i64 0, .slice none 0 0, .slice none 0 0, .slice none 0 0, .int .i64 0, .slice none 0 0]
      have tg := grownBy_setRow q6 p6 #[.int .i64 p.ver, .int .i64 p.par, .slice A2 n2 c2, .slice A3 n3 c3, .slice A4 n4 c4, .slice A5 n5 c5, .int .i64 r.id, .int .i64 r.entry, .int .i64 r.exit, .slice D3 l3 f3, .slice D4 l4 f4, .slice D5 l5 f5, .int .i64 r.timer, .slice AL nl cL, .int .i64 0, .int .i64 0, .slice none 0 0, .int .i64 0, .int .i64 0, .slice none 0 0, .slice none 0 0, .slice none 0 0, .int .i64 0, .slice none 0 0]
      have t6 := setRow_heap _ _ _ #[.int .i64 p.ver, .int .i64 p.par, .slice A2 n2 c2, .slice A3 n3 c3, .slice A4 n4 c4, .slice A5 n5 c5, .int .i64 r.id, .int .i64 r.entry, .int .i64 r.exit, .slice D3 l3 f3, .slice D4 l4 f4, .slice D5 l5 f5, .int .i64 r.timer, .slice AL nl cL, .int .i64 0, .int .i64 0, .slice none 0 0, .int .i64 0, .int .i64 0, .slice none 0 0, .slice none 0 0, .slice none 0 0, .int .i64 0, .slice none 0 0] _ _ X6.out
      have tl : IntsOwn (q6.setRow p6 #[.int .i64 p.ver, .int .i64 p.par, .slice A2 n2 c2, .slice A3 n3 c3, .slice A4 n4 c4, .slice A5 n5 c5, .int .i64 r.id, .int .i64 r.entry, .int .i64 r.exit, .slice D3 l3 f3, .slice D4 l4 f4, .slice D5 l5 f5, .int .i64 r.timer, .slice AL nl cL, .int .i64 0, .int .i64 0, .slice none 0 0, .int .i64 0, .int .i64 0, .slice none 0 0, .slice none 0 0, .slice none 0 0, .int .i64 0, .slice none 0 0]) q.heap.size (.slice AL nl cL) (allR r) := own_offT intF OL.out tg (by decide) ⟨_, X6.out⟩
      refine hK.out _ _ ?_ fun hHeld => ?_;exact tb;clear hK K;try simp only [zn, Act.put]
      generalize q6.setRow p6 #[.int .i64 p.ver, .int .i64 p.par, .slice A2 n2 c2, .slice A3 n3 c3, .slice A4 n4 c4, .slice A5 n5 c5, .int .i64 r.id, .int .i64 r.entry, .int .i64 r.exit, .slice D3 l3 f3, .slice D4 l4 f4, .slice D5 l5 f5, .int .i64 r.timer, .slice AL nl cL, .int .i64 0, .int .i64 0, .slice none 0 0, .int .i64 0, .int .i64 0, .slice none 0 0, .slice none 0 0, .slice none 0 0, .int .i64 0, .slice none 0 0] = q7 at tb t6 tl hHeld ⊢
      clear tg
      have FOL : Hid (FolB q q7 q.heap.size p6 (fun k => (#[.int .i64 p.ver, .int .i64 p.par, .slice A2 n2 c2, .slice A3 n3 c3, .slice A4 n4 c4, .slice A5 n5 c5, .int .i64 r.id, .int .i64 r.entry, .int .i64 r.exit, .slice D3 l3 f3, .slice D4 l4 f4, .slice D5 l5 f5, .int .i64 r.timer, .slice AL nl cL] : Array Value).getD k undef) p r) := Lib.hid ⟨⟨t6, PL6.out, HI2.out.below secR_ tb, HI6.out.below sigR tb, rfl, rfl, HI3.out.below intR tb, HI4.out.below intR tb, tl, in_nil, ⟨ListOwn.nil_, ListOwn.nil_, ListOwn.nil_⟩, ListOwn.nil_⟩,
       (fun k hk => match k, hk with | 0, _ => rfl | 1, _ => rfl | 2, _ => rfl | 3, _ => rfl | 4, _ => rfl | 5, _ => rfl | 6, _ => rfl | 7, _ => rfl | 8, _ => rfl | 9, _ => rfl | 10, _ => rfl | 11, _ => rfl | 12, _ => rfl | 13, _ => rfl), tb⟩
      clear tb t6 tl
      refine wpAnyH_done (by kernel_rfl) ?_ _
      go_wp2_with fail
      go_meet
      exact ⟨p6, _, rfl, FOL.out⟩
  ·go_simp
   have tb := HB.out.alloc HB.out.size (.cells #[.int .i64 0, .int .i64 0, .slice none 0 0, .slice none 0 0, .slice none 0 0, .slice none 0 0, .int .i64 0, .int .i64 0, .int .i64 0, .slice none 0 0, .slice none 0 0, .slice none 0 0, .int .i64 0, .slice none 0 0, .int .i64 0, .int .i64 0, .slice none 0 0, .int .i64 0, .int .i64 0, .slice none 0 0, .slice none 0 0, .slice none 0 0, .int .i64 0, .slice none 0 0] 117)
   have t6 := heap_alloc_self q0 (.cells #[.int .i64 0, .int .i64 0, .slice none 0 0, .slice none 0 0, .slice none 0 0, .slice none 0 0, .int .i64 0, .int .i64 0, .int .i64 0, .slice none 0 0, .slice none 0 0, .slice none 0 0, .int .i64 0, .slice none 0 0, .int .i64 0, .int .i64 0, .slice none 0 0, .int .i64 0, .int .i64 0, .slice none 0 0, .slice none 0 0, .slice none 0 0, .int .i64 0, .slice none 0 0] 117)
   refine hK.out _ _ ?_ fun hHeld => ?_;exact tb;clear hK K;try simp only [zn, Act.put]
   generalize q0.alloc (.cells #[.int .i64 0, .int .i64 0, .slice none 0 0, .slice none 0 0, .slice none 0 0, .slice none 0 0, .int .i64 0, .int .i64 0, .int .i64 0, .slice none 0 0, .slice none 0 0, .slice none 0 0, .int .i64 0, .slice none 0 0, .int .i64 0, .int .i64 0, .slice none 0 0, .int .i64 0, .int .i64 0, .slice none 0 0, .slice none 0 0, .slice none 0 0, .int .i64 0, .slice none 0 0] 117) = q8 at tb t6 hHeld ⊢
   obtain ⟨p6, hp6⟩ : ∃ n, n = q0.heap.size := ⟨_, rfl⟩
   rw [← hp6] at t6 ⊢
   have PL6 : Hid (q.heap.size ≤ p6) := Lib.hid (by rw [hp6]; exact HB.out.size)
   have HB' := Lib.hid tb
   have X6' := Lib.hid t6
   clear tb t6 hp6
   clear HB
   have HB := HB'
   have X6 := X6'
   clear HB' X6'
   refine tkr 6 (fun K hK => ?_)
   ·go_simp
    have tb := HB.out.alloc HB.out.size (.cells #[.slice D3 l3 f3, .slice D4 l4 f4] 61)
    have t16 := heap_alloc_self q8 (.cells #[.slice D3 l3 f3, .slice D4 l4 f4] 61)
    have t6 := (heap_alloc_lt q8 (.cells #[.slice D3 l3 f3, .slice D4 l4 f4] 61) (heap_lt X6.out)).trans X6.out
    refine hK.out _ _ ?_ fun hHeld => ?_;exact tb;clear hK K;try simp only [zn, Act.put]
    generalize q8.alloc (.cells #[.slice D3 l3 f3, .slice D4 l4 f4] 61) = q9 at tb t16 t6 hHeld ⊢
    obtain ⟨p16, hp16⟩ : ∃ n, n = q8.heap.size := ⟨_, rfl⟩
    rw [← hp16] at t16 ⊢
    have HB' := Lib.hid tb
    have X16 := Lib.hid t16
    have X6' := Lib.hid t6
    clear tb t16 t6 hp16
    clear HB X6
    have HB := HB'
    have X6 := X6'
    clear HB' X6'
    refine tkr 7 (fun K hK => ?_)
    ·go_simp
     refine (concat_own p16 _ _ _ _ _ _ r.path r.over q9 X16.out ((HI3.out.below intR HB.out).more intR HB.out.size) ((HI4.out.below intR HB.out).more intR HB.out.size) HLN.out.1 HLN.out.2.1 HLN.out.2.2.1 HLN.out.2.2.2).mono ?_
     rintro e q10 ⟨AL, cL, nl, rfl, hnl, hol, b⟩
     have HNL : Hid (nl = (allR r).length) := Lib.hid hnl
     have OL : Hid (IntsOwn q10 q.heap.size (.slice AL nl cL) (allR r)) := Lib.hid (hol.mono HB.out.size)
     have HB' := Lib.hid (HB.out.trans (b.mono HB.out.size))
     have X6' := Lib.hid ((b.block _ (heap_lt X6.out)).trans X6.out)
     clear b hnl hol
     try go_wp2_with fail
     refine hK.out _ _ ?_ fun hHeld => ?_;exact HB'.out;clear hK K;try simp only [zn, Act.put]
     refine tk 8 hHeld ?_
     clear HB X6
     have HB := HB'
     have X6 := X6'
     clear HB' X6'
     refine tkr 10 (fun K hK => ?_)
     ·rw [if_pos (by rfl)]
      refine wp_store_rowS 117 (.tmp 6) (.tmp 18) rfl p6 rfl (c' := #[.int .i64 p.ver, .int .i64 p.par, .slice A2 n2 c2, .slice A3 n3 c3, .slice A4 n4 c4, .slice A5 n5 c5, .int .i64 r.id, .int .i64 r.entry, .int .i64 r.exit, .slice D3 l3 f3, .slice D4 l4 f4, .slice D5 l5 f5, .int .i64 r.timer, .slice AL nl cL, .int .i64 0, .int .i64 0, .slice none 0 0, .int .i64 0, .int .i64 0, .slice none 0 0, .slice none 0 0, .slice none 0 0, .int .i64 0, .slice none 0 0]) rfl X6.out infoWalk rfl (by simp [Value.oneCell']) ?_
      have tb := below_setRow HB.out PL6.out #[.int .i64 p.ver, .int .i64 p.par, .slice A2 n2 c2, .slice A3 n3 c3, .slice A4 n4 c4, .slice A5 n5 c5, .int .i64 r.id, .int .i64 r.entry, .int .i64 r.exit, .slice D3 l3 f3, .slice D4 l4 f4, .slice D5 l5 f5, .int .i64 r.timer, .slice AL nl cL, .int .i64 0, .int .i64 0, .slice none 0 0, .int .i64 0, .int .i64 0, .slice none 0 0, .slice none 0 0, .slice none 0 0, .int .i64 0, .slice none 0 0]
      have tg := grownBy_setRow q10 p6 #[.int .i64 p.ver, .int .i64 p.par, .slice A2 n2 c2, .slice A3 n3 c3, .slice A4 n4 c4, .slice A5 n5 c5, .int .i64 r.id, .int .i64 r.entry, .int .i64 r.exit, .slice D3 l3 f3, .slice D4 l4 f4, .slice D5 l5 f5, .int .i64 r.timer, .slice AL nl cL, .int .i64 0, .int .i64 0, .slice none 0 0, .int .i64 0, .int .i64 0, .slice none 0 0, .slice none 0 0, .slice none 0 0, .int .i64 0, .slice none 0 0]
      have t6 := setRow_heap _ _ _ #[.int .i64 p.ver, .int .i64 p.par, .slice A2 n2 c2, .slice A3 n3 c3, .slice A4 n4 c4, .slice A5 n5 c5, .int .i64 r.id, .int .i64 r.entry, .int .i64 r.exit, .slice D3 l3 f3, .slice D4 l4 f4, .slice D5 l5 f5, .int .i64 r.timer, .slice AL nl cL, .int .i64 0, .int .i64 0, .slice none 0 0, .int .i64 0, .int .i64 0, .slice none 0 0, .slice none 0 0, .slice none 0 0, .int .i64 0, .slice none 0 0] _ _ X6.out
      have tl : IntsOwn (q10.setRow p6 #[.int .i64 p.ver, .int .i64 p.par, .slice A2 n2 c2, .slice A3 n3 c3, .slice A4 n4 c4, .slice A5 n5 c5, .int .i64 r.id, .int .i64 r.entry, .int .i64 r.exit, .slice D3 l3 f3, .slice D4 l4 f4, .slice D5 l5 f5, .int .i64 r.timer, .slice AL nl cL, .int .i64 0, .int .i64 0, .slice none 0 0, .int .i64 0, .int .i64 0, .slice none 0 0, .slice none 0 0, .slice none 0 0, .int .i64 0, .slice none 0 0]) q.heap.size (.slice AL nl cL) (allR r) := own_offT intF OL.out tg (by decide) ⟨_, X6.out⟩
      refine hK.out _ _ ?_ fun hHeld => ?_;exact tb;clear hK K;try simp only [zn, Act.put]
      generalize q10.setRow p6 #[.int .i64 p.ver, .int .i64 p.par, .slice A2 n2 c2, .slice A3 n3 c3, .slice A4 n4 c4, .slice A5 n5 c5, .int .i64 r.id, .int .i64 r.entry, .int .i64 r.exit, .slice D3 l3 f3, .slice D4 l4 f4, .slice D5 l5 f5, .int .i64 r.timer, .slice AL nl cL, .int .i64 0, .int .i64 0, .slice none 0 0, .int .i64 0, .int .i64 0, .slice none 0 0, .slice none 0 0, .slice none 0 0, .int .i64 0, .slice none 0 0] = q11 at tb t6 tl hHeld ⊢
      clear tg
      have FOL : Hid (FolB q q11 q.heap.size p6 (fun k => (#[.int .i64 p.ver, .int .i64 p.par, .slice A2 n2 c2, .slice A3 n3 c3, .slice A4 n4 c4, .slice A5 n5 c5, .int .i64 r.id, .int .i64 r.entry, .int .i64 r.exit, .slice D3 l3 f3, .slice D4 l4 f4, .slice D5 l5 f5, .int .i64 r.timer, .slice AL nl cL] : Array Value).getD k undef) p r) := Lib.hid ⟨⟨t6, PL6.out, HI2.out.below secR_ tb, HI6.out.below sigR tb, rfl, rfl, HI3.out.below intR tb, HI4.out.below intR tb, tl, in_nil, ⟨ListOwn.nil_, ListOwn.nil_, ListOwn.nil_⟩, ListOwn.nil_⟩,
       (fun k hk => match k, hk with | 0, _ => rfl | 1, _ => rfl | 2, _ => rfl | 3, _ => rfl | 4, _ => rfl | 5, _ => rfl | 6, _ => rfl | 7, _ => rfl | 8, _ => rfl | 9, _ => rfl | 10, _ => rfl | 11, _ => rfl | 12, _ => rfl | 13, _ => rfl), tb⟩
      clear tb t6 tl
      refine wpAnyH_done (by kernel_rfl) ?_ _
      go_wp2_with fail
      go_meet
      exact ⟨p6, _, rfl, FOL.out⟩
 case rest =>
  obtain ⟨g, F, rfl, hf⟩ := hcut
  obtain ⟨wX, hwX⟩ : ∃ z, z = wc := ⟨_, rfl⟩
  subst hwX
  have WX := Lib.hid hf.1
  have ONE := Lib.hid hf.2.1
  have BX := Lib.hid hf.2.2
  clear hf
  go_wp2_with fail
  refine (pstart_any wX WX.out HR.out).mono ?_
  rintro e w1 ⟨rfl, ⟨u, u0, u1, t', hc, hu⟩, b1⟩
  have HC0 := Lib.hid hc
  have W1 := Lib.hid hu
  have B1 : Hid (Below q.heap.size q w1) := Lib.hid (BX.out.trans b1)
  clear hc hu b1
  obtain ⟨A13, c13, e13⟩ := W1.out.all.slice
  obtain ⟨n13, hn13⟩ : ∃ n, n = (allR r).length := ⟨_, rfl⟩
  have HN13 := Lib.hid hn13
  have hn8 : n13 ≤ 8 := by have := HR.out.len; omega
  have k13 : w1.cell? ⟨g, 13, none⟩ = some (.slice A13 n13 c13) := W1.out.cell 13 (congrArg some (show F 13 = .slice A13 n13 c13 by rw [e13, hn13]))
  clear e13 hn13
  go_wp2_with fail
  go_loopw [23] (fun s23 wr => ∃ (i : Nat) (s : Sec) (h2 : Value) (t : Jn) (y0 y1 y2 : Value) (x : Wy) (o : Value) (l : List Jn), i ≤ n13 ∧ s23 = .int .i64 i ∧ WkS wr q.heap.size g F p r s h2 t y0 y1 y2 x o l ∧ SoFar p r i x l ∧ (i < n13 → comesN p r i = some t) ∧ Below q.heap.size q wr) (fun s23 _ => n13 - (intOf s23).toNat)
  case atStart => exact ⟨0, _, _, _, _, _, _, _, _, _, by omega, by go_num, W1.out, ⟨fun i hi => absurd hi (by omega), rfl, rfl, rfl, rfl, rfl⟩, fun _ => HC0.out, B1.out⟩
  case round =>
   obtain ⟨i, s, h2, t, y0, y1, y2, x, o, l, hi, rfl, hw, hsf, hcm, hb⟩ := hrel
   have WR := Lib.hid hw
   have SF := Lib.hid hsf
   have HCM := Lib.hid hcm
   have BR := Lib.hid hb
   clear hw hsf hcm hb k13
   by_cases hlt : i < n13
   ·have hlt' : (i : Int) < n13 := by omega
    have HIA : Hid (i < (allR r).length) := Lib.hid (by rw [← HN13.out]; exact hlt)
    have HCI := Lib.hid (HCM.out hlt)
    go_wp2_with fail
    refine (penter_any wr WR.out i HIA.out HR.out).mono ?_
    rintro e w2 ⟨rfl, ⟨u2_, hu⟩, b2⟩
    have W2 := Lib.hid hu
    have B2 : Hid (Below q.heap.size q w2) := Lib.hid (BR.out.trans b2)
    clear hu b2
    by_cases ht : t.1 = (allR r).getD i 0
    ·have HD : Hid (sameI t.1 ((allR r).getD i 0) = true) := Lib.hid (decide_eq_true ht)
     have HH : Hid (HereIn p r i t) := Lib.hid ⟨HCI.out, ht⟩
     rw [HD.out]
     clear ht
     go_wp2_with fail
     refine (ppass_any w2 i W2.out HIA.out HH.out SF.out HR.out).mono ?_
     rintro e w3 ⟨hq, b3⟩
     have B3 : Hid (Below q.heap.size q w3) := Lib.hid (B2.out.trans b3)
     clear b3
     rcases hq with ⟨rfl, t3, y3, x3, o3, m3, hw3, hs3, hc3⟩ | ⟨rfl, hno⟩
     ·have W3 := Lib.hid hw3
      have S3 := Lib.hid hs3
      have C3 : Hid (i + 1 < n13 → comesN p r (i + 1) = some t3) := Lib.hid (by rw [HN13.out]; exact hc3)
      clear hw3 hs3 hc3
      go_wp2_with fail
      go_roundw
      case measure => simp [intOf]; omega
      case rel => exact ⟨i + 1, _, _, _, _, _, _, _, _, _, by omega, by go_num, W3.out, S3.out, C3.out, B3.out⟩
     ·have NH := Lib.hid hno
      clear hno
      have XE := Lib.hid ((B3.out.block p4 P4.out).trans X4.out)
      go_wp2_with ((with_reducible show wpList _ _ _ (⟨none, _, _, _, _, _⟩ :: _) _ _); refine wpList_store_rowS rfl _ (.tmp 4) (.tmp 34) rfl p4 rfl (c' := #[.int .i64 0, .int .i64 0, .slice none 0 0, .slice none 0 0, .slice none 0 0, .slice none 0 0, .int .i64 0, .int .i64 0, .int .i64 0, .slice none 0 0, .slice none 0 0, .slice none 0 0, .int .i64 0, .slice none 0 0, .int .i64 0, .int .i64 0, .slice none 0 0, .int .i64 0, .int .i64 0, .slice none 0 0, .slice none 0 0, .slice none 0 0, .int .i64 0, .slice none 0 0]) rfl XE.out infoWalk rfl (by simp [Value.oneCell']) ?_)
      refine bodyPost_ret (results_rowS_tmp (c := #[.int .i64 0, .int .i64 0, .slice none 0 0, .slice none 0 0, .slice none 0 0, .slice none 0 0, .int .i64 0, .int .i64 0, .int .i64 0, .slice none 0 0, .slice none 0 0, .slice none 0 0, .int .i64 0, .slice none 0 0, .int .i64 0, .int .i64 0, .slice none 0 0, .int .i64 0, .int .i64 0, .slice none 0 0, .slice none 0 0, .slice none 0 0, .int .i64 0, .slice none 0 0]) rfl _ _ p4 rfl (setRow_heap _ _ _ _ _ _ XE.out) Tryz.underlying117 infoWalk (.int .i64 90) rfl) rfl ?_
      exact ⟨zF, 0, 0, _, 0, 0, _, _, _, zWy, _, [], 90, rfl, wk_one zF_one 0 0 0 0 _ rfl rfl rfl rfl rfl, wyOwn_zero _ _, ListOwn.nil_, .inr ⟨NH.out, rfl, rfl, rfl⟩, below_setRow (BQ.out.trans (B3.out.mono LOW.out)) PL4.out _⟩
    ·have HD : Hid (sameI t.1 ((allR r).getD i 0) = false) := Lib.hid (decide_eq_false ht)
     have NH : Hid (¬ Hangs p r) := Lib.hid (hangs_not HIA.out HCI.out (fun h => ht h.1))
     rw [HD.out]
     clear ht
     have XE := Lib.hid ((B2.out.block p4 P4.out).trans X4.out)
     go_wp2_with ((with_reducible show wpList _ _ _ (⟨none, _, _, _, _, _⟩ :: _) _ _); refine wpList_store_rowS rfl _ (.tmp 4) (.tmp 34) rfl p4 rfl (c' := #[.int .i64 0, .int .i64 0, .slice none 0 0, .slice none 0 0, .slice none 0 0, .slice none 0 0, .int .i64 0, .int .i64 0, .int .i64 0, .slice none 0 0, .slice none 0 0, .slice none 0 0, .int .i64 0, .slice none 0 0, .int .i64 0, .int .i64 0, .slice none 0 0, .int .i64 0, .int .i64 0, .slice none 0 0, .slice none 0 0, .slice none 0 0, .int .i64 0, .slice none 0 0]) rfl XE.out infoWalk rfl (by simp [Value.oneCell']) ?_)
     refine bodyPost_ret (results_rowS_tmp (c := #[.int .i64 0, .int .i64 0, .slice none 0 0, .slice none 0 0, .slice none 0 0, .slice none 0 0, .int .i64 0, .int .i64 0, .int .i64 0, .slice none 0 0, .slice none 0 0, .slice none 0 0, .int .i64 0, .slice none 0 0, .int .i64 0, .int .i64 0, .slice none 0 0, .int .i64 0, .int .i64 0, .slice none 0 0, .slice none 0 0, .slice none 0 0, .int .i64 0, .slice none 0 0]) rfl _ _ p4 rfl (setRow_heap _ _ _ _ _ _ XE.out) Tryz.underlying117 infoWalk (.int .i64 90) rfl) rfl ?_
     exact ⟨zF, 0, 0, _, 0, 0, _, _, _, zWy, _, [], 90, rfl, wk_one zF_one 0 0 0 0 _ rfl rfl rfl rfl rfl, wyOwn_zero _ _, ListOwn.nil_, .inr ⟨NH.out, rfl, rfl, rfl⟩, below_setRow (BQ.out.trans (B2.out.mono LOW.out)) PL4.out _⟩
   ·obtain rfl : n13 = i := by omega
    have hlt' : ¬ (n13 : Int) < n13 := by omega
    have HG : Hid (Hangs p r) := Lib.hid (by have := SF.out.hangs; rw [HN13.out] at this; exact this)
    have X3r := Lib.hid ((BR.out.block _ (heap_lt X3.out)).trans X3.out)
    obtain ⟨m0, m1, m2, m3, m4, m5, m6⟩ := cell7_of X3r.out
    obtain ⟨wY, hY⟩ : ∃ z, z = wr := ⟨_, rfl⟩
    subst hY
    go_wp2_with fail
    go_loopw [39] (fun s39 wr => ∃ (j : Nat) (y2 : Value) (x : Wy), j ≤ l5 ∧ s39 = .int .i64 j ∧ WkS wr q.heap.size g F p r s h2 t y0 y1 y2 x o l ∧ x.path = r.path ∧ x.over = r.over ∧ x.near = (sigN p r.entry).2.1 ∧ x.asks = asksL p r n13 ++ (r.flanks.take j).map flankA ∧ Below q.heap.size q wr) (fun s39 _ => l5 - (intOf s39).toNat)
    case atStart => exact ⟨0, _, _, by omega, by go_num, WR.out, SF.out.path, SF.out.over, SF.out.near, by rw [SF.out.asks]; simp, BR.out⟩
    case round =>
     have OUTS := Lib.hid SF.out.outs
     clear WR SF HCM BR X3r m0 m1 m2 m3 m4 m5 m6
     obtain ⟨j, y2, x, hj, rfl, hw, hxp, hxo, hxn, hxa, hb⟩ := hrel
     have WR := Lib.hid hw
     have XP := Lib.hid hxp
     have XO := Lib.hid hxo
     have XN := Lib.hid hxn
     have XA := Lib.hid hxa
     have BR := Lib.hid hb
     clear hw hxp hxo hxn hxa hb
     by_cases hlt2 : j < l5
     ·have hlt2' : (j : Int) < l5 := by omega
      have hjf : j < r.flanks.length := by have := HL5.out.1; omega
      obtain ⟨bf, off, e5, hbf, hh0, hh1⟩ := ((HI5.out.below joinR BR.out)).at hjf
      cases e5
      obtain ⟨a1, a2, hfl⟩ : ∃ a b, r.flanks[j] = (a, b) := ⟨_, _, rfl⟩
      rw [hfl] at hh0 hh1
      have YES : Hid ((r.flanks.take (j + 1)).map flankA = (r.flanks.take j).map flankA ++ [(a1, a2, (-1 : Int))]) := Lib.hid (by rw [List.take_succ_eq_append_getElem hjf, List.map_append, hfl]; rfl)
      have he0 : wr.cell? ⟨bf, off + j * 2, none⟩ = some (.int .i64 a1) := hh0
      have he1 : wr.cell? ⟨bf, off + j * 2 + 1, none⟩ = some (.int .i64 a2) := hh1
      have XX0 := heap_alloc_self wr (.cells #[.int .i64 0, .int .i64 0] 140)
      have hz0 := below_setRow (below_new wr (.cells #[.int .i64 0, .int .i64 0] 140)) (Nat.le_refl _) #[.int .i64 a1, .int .i64 a2]
      have hz1 := setRow_heap (wr.alloc (.cells #[.int .i64 0, .int .i64 0] 140)) wr.heap.size _ #[.int .i64 a1, .int .i64 a2] 140 _ XX0
      clear hh0 hh1 hbf hfl
      go_upto_region 12 with ((with_reducible show wpList _ _ _ (⟨none, _, _, _, _, _⟩ :: _) _ _); refine wpList_store_rowS rfl _ (.tmp 9) (.tmp 42) rfl wr.heap.size rfl (c' := #[.int .i64 a1, .int .i64 a2]) rfl XX0 infoFlank2 rfl (by simp [Value.oneCell']) ?_)
      generalize (wr.alloc (.cells #[.int .i64 0, .int .i64 0] 140)).setRow wr.heap.size #[.int .i64 a1, .int .i64 a2] = wq at hz0 hz1 ⊢
      obtain ⟨p9, hp9⟩ : ∃ n, n = wr.heap.size := ⟨_, rfl⟩
      rw [← hp9] at hz1 ⊢
      have X9 := Lib.hid hz1
      have WQ := Lib.hid (WR.out.below hz0)
      have BQ9 : Hid (Below q.heap.size q wq) := Lib.hid (BR.out.trans (hz0.mono WR.out.size))
      clear hz0 hz1 XX0 hp9 he0 he1
      obtain ⟨A, c, eA⟩ := WQ.out.way.asks.slice
      obtain ⟨n, hn⟩ : ∃ n, n = x.asks.length := ⟨_, rfl⟩
      have HLL := Lib.hid hn
      have LLE : Hid (n ≤ 50) := Lib.hid (by
       rw [hn, XA.out, List.length_append, List.length_map, List.length_take]
       have h1 : (asksL p r n13).length ≤ n13 := Nat.le_trans (List.length_filterMap_le _ _) (by simp)
       omega)
      have HY : Hid (y2 = .slice A n c) := Lib.hid (by rw [eA, hn])
      have SZ : Hid (g + 1 ≤ wq.heap.size) := Lib.hid WQ.out.lt
      obtain ⟨yss, hown, hyl, hm, hys, hyr⟩ := WQ.out.way.asks
      rw [← HLL.out, HY.out] at hown
      have O := Lib.hid hown
      have YL := Lib.hid hyl
      have YS := Lib.hid hys
      have YR := Lib.hid hyr
      have k21 : wq.cell? ⟨g, 21, none⟩ = some (.slice A n c) := WQ.out.cell 21 (congrArg some HY.out)
      obtain ⟨i0, hii, hz0, hzz, hz2⟩ := info_parts infoAskI
      have I0 := Lib.hid hii
      have I1 := Lib.hid hz0
      have I2 := Lib.hid hzz
      have I3 := Lib.hid hz2
      clear hii hz0 hzz hz2 hown hyl hm hys hyr hn eA
      obtain ⟨m0, m1⟩ := cell2_of X9.out
      go_wp2_with ((with_reducible show wpList _ _ _ (⟨some 52, _, _, _, _, _⟩ :: _) _ _); refine wpList_append_list rfl (.tmp 45) (.tmp 51) _ rfl Tryz.underlying94 I0.out I1.out rfl I2.out (by decide) I3.out (by decide) rfl (O.out.alloc _) (m := 1) rfl (news := [.int .i64 a1, .int .i64 a2, .int .i64 (-1)]) rfl (fun h => by cases h) (fun a ha j u hj => by cases ha; rw [Addr.add_lit, Nat.zero_add, World.cell?_alloc_new]; simpa using hj) (by simp [Value.oneCell']) (by have := LLE.out; omega) (by have := SZ.out; simp; omega) ?_; intro v5 w5 hown5 hgrow5; have S5 : Hid (AsksOwn w5 (g + 1) v5 (x.asks ++ [(a1, a2, (-1 : Int))])) := Lib.hid (ListOwn.snoc (w1 := wq) (x := (a1, a2, (-1 : Int))) (ys := [.int .i64 a1, .int .i64 a2, .int .i64 (-1)]) sigR (fun _ h _ _ => h) (by rw [← HLL.out]; exact O.out) YL.out YS.out rfl (by have := LLE.out; have := HLL.out; unfold maxLen; omega) YR.out (Below.refl _ _) ⟨rfl, rfl, rfl⟩ (by rw [← HLL.out]; exact hown5) hgrow5); have B5 : Hid (Below (g + 1) wq w5) := Lib.hid (((Below.refl (g + 1) wq).alloc SZ.out _).grown hgrow5 (by have := SZ.out; simp; omega) (own_ge O.out)); have SE : Hid (WkS (w5.setCell ⟨g, 21, none⟩ v5) q.heap.size g F p r s h2 t y0 y1 v5 ⟨x.path, x.over, x.asks ++ [(a1, a2, (-1 : Int))], x.near⟩ o l ∧ Below q.heap.size wq (w5.setCell ⟨g, 21, none⟩ v5)) := Lib.hid (by have q0 := below_new wq (.cells #[.int .i64 a1, .int .i64 a2, .int .i64 (-1)] 108); have h0 := WQ.out.below q0; obtain ⟨k1, k2⟩ := h0.addAsk ⟨x.path, x.over, x.asks ++ [(a1, a2, (-1 : Int))], x.near⟩ v5 ⟨rfl, rfl, rfl⟩ (by rw [HY.out]; exact hgrow5) S5.out; exact ⟨k1, (q0.mono WQ.out.size).trans k2⟩); have kw : w5.cell? ⟨g, 21, none⟩ = some (.slice A n c) := (B5.out.cell (p := ⟨g, 21, none⟩) (Nat.lt_succ_self g)).trans k21; have fw : w5.frozen? ⟨g, 21, none⟩ = false := (B5.out.frozen (p := ⟨g, 21, none⟩) (Nat.lt_succ_self g)).trans (WQ.out.frozen 21); obtain ⟨A5, c5_, rfl⟩ := own_sliceN hown5; clear hown5 hgrow5 k21)
      go_roundw
      case measure => simp [intOf]; omega
      case rel => exact ⟨j + 1, _, _, by omega, by go_num, SE.out.1, XP.out, XO.out, XN.out, by rw [YES.out, ← List.append_assoc, ← XA.out], BQ9.out.trans SE.out.2⟩
     ·obtain rfl : l5 = j := by omega
      have hlt2' : ¬ (l5 : Int) < l5 := by omega
      have XE := Lib.hid ((BR.out.block p4 P4.out).trans X4.out)
      have HX : Hid (x = wayR p r) := Lib.hid (wy_eq.2 ⟨XN.out, XP.out, XO.out, by rw [XA.out, HN13.out, HL5.out.1, List.take_length]; rfl⟩)
      have HW1 : Hid ((wkRow F s.1 s.2.1 h2 t.1 t.2 y0 y1 y2 x.near o).all (·.oneCell') = true) := Lib.hid (wk_one ONE.out _ _ _ _ _ (listIn_one WR.out.ends) (list_one WR.out.way.path) (list_one WR.out.way.over) (list_one WR.out.way.asks) (list_one WR.out.outs))
      obtain ⟨row, hrow⟩ : ∃ c, c = wkRow F s.1 s.2.1 h2 t.1 t.2 y0 y1 y2 x.near o := ⟨_, rfl⟩
      have HROW := Lib.hid hrow
      have XG : Hid (wr.heap[g]? = some (.cells row 117 (0, 0))) := Lib.hid (by rw [hrow]; exact WR.out.row)
      have HSIZE : Hid (row.size = 24) := Lib.hid (by rw [hrow]; rfl)
      have HR1 : Hid (row.all (·.oneCell') = true) := Lib.hid (by rw [hrow]; exact HW1.out)
      have INF : Hid ((Tryz.prog.info? 117).map (·.size) = some row.size) := Lib.hid (by rw [HSIZE.out]; exact infoWalk)
      clear hrow
      go_wp2_with (first | ((with_reducible show wpList _ _ _ (⟨some 56, _, _, _, _, _⟩ :: _) _ _); refine wpList_load_row rfl _ (.tmp 6) rfl g rfl _ row _ _ XG.out Tryz.underlying117 rfl INF.out ?_) | ((with_reducible show wpList _ _ _ (⟨none, _, _, _, _, _⟩ :: _) _ _); refine wpList_store_rowS rfl _ (.tmp 4) (.tmp 56) rfl p4 rfl (c' := row) rfl XE.out INF.out (by rw [HSIZE.out]; rfl) HR1.out ?_))
      refine bodyPost_ret (results_rowS_tmp (c := row) rfl _ _ p4 rfl (setRow_heap _ _ _ _ _ _ XE.out) Tryz.underlying117 INF.out (.int .i64 0) rfl) rfl ?_
      have hkp := grownBy_setRow wr p4 row
      have hoo : JoinsOwn (wr.setRow p4 row) (g + 1) o l := own_kept joinF WR.out.outs hkp (fun k hk => by have := own_lo WR.out.outs k hk; have := P4.out; have := WR.out.low; omega)
      refine ⟨F, _, _, _, _, _, _, _, _, x, _, l, 0, by rw [HROW.out], HW1.out, (WR.out.way.kept hkp (by have := P4.out; have := WR.out.low; omega)).mono (show w.heap.size ≤ g + 1 by have := LOW.out; have := WR.out.low; omega), hoo.mono (show w.heap.size ≤ g + 1 by have := LOW.out; have := WR.out.low; omega), .inl ⟨HG.out, rfl, HX.out, by rw [OUTS.out, HN13.out]⟩, below_setRow (BQ.out.trans (BR.out.mono LOW.out)) PL4.out _⟩
end Go.Proofs.YtemmgmjhomgbbaaGreat
