/-
 The program's package state: what a route holds, and asks, handed over one by one; take.
 Conditions: none.
-/
import Derived.Test.YtemmgmjhomgbbaaGreatVGStaG
import Derived.Test.YtemmgmjhomgbbaaGreatVWayPK
set_option linter.unusedVariables false
set_option linter.unusedSimpArgs false
set_option maxRecDepth 100000
namespace Go.Proofs.YtemmgmjhomgbbaaGreat
open Go.RowKit

theorem yieldsIf_slice_from15 {P : Program} {ops : Array Oper} {S : World → Prop} {op : Oper} {a : Act} (hw : Region.wanted op (yielded ops a.tmps) = true) (t : TypeId) (x lo : Operand) (ho : op.op = .slice t x (some lo) none none)
  {A : Option Addr} {n c m s e : Nat} {i : TypeInfo} (hx : a.eval x = .slice A n c) (hl : a.eval lo = .int .i64 (m : Int)) (ht : P.underlying t = some (.slice e)) (hi : P.info? e = some i) (hs : i.size = s) (hm : m ≤ n) (hnc : n ≤ c) {A' : Option Addr} (hA : A' = if c = m then A else A.map (·.add (m * s))) :
  YieldsIf P ops S op (.slice A' (n - m) (c - m)) a := .inl ⟨hw, fun w _ => by
 subst hA
 have he : P.elem t = e := by simp [Program.elem, ht]
 unfold execOp
 simp only [ho, hx, hl, Option.map_some, Option.map_none]
 have hm' : (m : Int) ≤ n := by omega
 have hm0 : (0 : Int) ≤ m := by omega
 simp [Instr.sliceAt, Instr.slice, run_underlying ht, Instr.sliceBounds, run_sliceBound, sizeOf, typeInfo, hi, hs, hm', hm0]⟩
theorem IntsIn.drop15 {W : World} {B n c m : Nat} {A : Option Addr} {ks : List Int} (h : IntsIn W B (.slice A n c) ks) (hm : m ≤ ks.length) : IntsIn W B (.slice (if c = m then A else A.map (·.add (m * 1))) (n - m) (c - m)) (ks.drop m) := by
 obtain ⟨A', c', e, h1, h2, hn, h3⟩ := h
 cases e
 have hl : (ks.drop m).length = ks.length - m := List.length_drop
 refine ⟨_, c - m, by rw [hl], by omega, by omega, fun e => ?_, fun hp => ?_⟩
 ·by_cases hcm : c = m
  ·omega
  ·rw [if_neg hcm] at e
   have : A = none := by cases A with | none => rfl | some a => cases e
   have := hn this
   omega
 ·obtain ⟨b, off, ha, hb, hc⟩ := h3 (by omega)
  subst ha
  rw [if_neg (by omega)]
  refine ⟨b, off + m * 1, by simp [Addr.add], hb, fun j hj => ?_⟩
  have := hc (m + j) (by omega)
  simp only [IntR, Nat.mul_one] at this ⊢
  rw [show off + m + j + 0 = off + (m + j) + 0 from by omega, this]
  simp
theorem grown_of_below15 {W W' : World} (h : Below W.heap.size W W') (r : Option Nat) : W.grownBy W' r := ⟨h.os, h.tape, h.output, h.size, fun k hk _ => h.block k hk⟩
theorem grown_cell15 {W W' : World} {m bk o : Nat} {es : EntsI} {v : Value} (hg : W.grownBy W' (some m)) (hm : MapBI W m es) (hb : bk < W.heap.size) (hc : W.cell? ⟨bk, o, none⟩ = some v) : W'.cell? ⟨bk, o, none⟩ = some v := by
 by_cases e : bk = m
 ·subst e
  have g1 : W.heap[bk]? = _ := hm
  simp [World.cell?, g1] at hc
 ·exact (World.cell?_of_block (hg.block bk hb (fun e2 => e (by injection e2)))).trans hc
def heldW (x : Wy) (b c : Int) : List Int := if b = 0 then [] else x.path.drop c.toNat ++ x.over
def askedW (x : Wy) (b c : Int) : List Ak := if b = 0 then [] else x.asks.filter (standsA c)
theorem stands_snoc {c : Int} {l : List Ak} {k : Ak} (h : standsA c k = true) : (l ++ [k]).filter (standsA c) = l.filter (standsA c) ++ [k] := by simp [h]
theorem stands_skip {c : Int} {l : List Ak} {k : Ak} (h : standsA c k = false) : (l ++ [k]).filter (standsA c) = l.filter (standsA c) := by simp [h]
theorem stands_yes {c x y z : Int} (h : z < 0 ∨ c ≤ z) : standsA c (x, y, z) = true := by
 unfold standsA
 rw [← Bool.decide_or]; exact decide_eq_true h
theorem stands_no {c x y z : Int} (h : ¬ (z < 0 ∨ c ≤ z)) : standsA c (x, y, z) = false := by
 unfold standsA
 rw [← Bool.decide_or]; exact decide_eq_false h
theorem held_way {p : Pl} {s : St15} {i : Nat} : heldN p s i = heldW (wayR p (rtN p i)) (lkN s i).2.1 (lkN s i).2.2.1 := rfl
theorem asked_way {p : Pl} {s : St15} {i : Nat} : askedN p s i = askedW (wayR p (rtN p i)) (lkN s i).2.1 (lkN s i).2.2.1 := rfl
set_option maxHeartbeats 16000000 in
theorem holds_any (P0 P1 P2 : Option Addr) (n0 n1 n2 c0 c1 c2 : Nat) (nr : Int) (x : Wy) (a b c d : Int) (pc pl m1 m2 : Nat) (es : EntsI) (w : World) (hin : WyIn w w.heap.size (.slice P0 n0 c0) (.slice P1 n1 c1) (.slice P2 n2 c2) x) (hn : n0 = x.path.length ∧ n1 = x.over.length ∧ n2 = x.asks.length)
  (hg : b ≠ 0 → 0 ≤ c ∧ c < (x.path.length : Int)) (hl2 : x.path.length + x.over.length ≤ 1000) (hc : w.heap[pc]? = some (.cells #[.map (some m1), .map (some m2)] 70 (0, 0))) (hl : w.heap[pl]? = some (.cells #[.int .i64 a, .int .u8 b, .int .i64 c, .int .i64 d] 53 (0, 0))) (hm : MapBI w m1 es) (hnd : KeysNdI es) :
  Calls Tryz.prog 77 #[.agg #[.slice P0 n0 c0, .slice P1 n1 c1, .slice P2 n2 c2, .int .i64 nr], .agg #[.int .i64 a, .int .u8 b, .int .i64 c, .int .i64 d], .func (.func 78) #[] #[.pointer (some ⟨pc, 0, none⟩), .pointer (some ⟨pl, 0, none⟩)]] w fun e w' => e = .returned (.bool (okB (okH es (heldW x b c)))) ∧ (∃ es', MapBI w' m1 es' ∧ Hid (okH es (heldW x b c) → es' = putH es a (heldW x b c))) ∧ w.grownBy w' (some m1) := by
 have HNN := Lib.hid hn
 clear hn
 obtain ⟨hx, hy, hqb⟩ := two_boxes w (.cells #[.slice P0 n0 c0, .slice P1 n1 c1, .slice P2 n2 c2, .int .i64 nr] 96) (.cells #[.int .i64 a, .int .u8 b, .int .i64 c, .int .i64 d] 53)
 have hc' := (hqb.block _ (heap_lt hc)).trans hc
 have hl' := (hqb.block _ (heap_lt hl)).trans hl
 have hm' : MapBI _ m1 es := (hqb.block _ hm.lt).trans hm
 have hml := Nat.lt_of_lt_of_le hm.lt hqb.size
 go_enter Tryz.func77, Tryz.ntmps77
 go_upto_region 1 with fail
 generalize (w.alloc (.cells #[.slice P0 n0 c0, .slice P1 n1 c1, .slice P2 n2 c2, .int .i64 nr] 96)).alloc (.cells #[.int .i64 a, .int .u8 b, .int .i64 c, .int .i64 d] 53) = q at hx hy hqb hc' hl' hm' hml ⊢
 have QB := Lib.hid hqb
 have X := Lib.hid hx
 have Y := Lib.hid hy
 have C := Lib.hid hc'
 have L := Lib.hid hl'
 have M := Lib.hid hm'
 have MS := Lib.hid (And.intro hm.lt hml)
 have ND := Lib.hid hnd
 have HIN := Lib.hid (show WyIn q q.heap.size _ _ _ x from (hin.below hqb).more hqb.size)
 obtain ⟨j0, j1, j2, j3⟩ := cell4_of hy
 clear hx hy hc' hl' hm' hc hl hm hnd hin hqb hml
 by_cases hb0 : b = 0
 ·have HW : Hid (heldW x b c = []) := Lib.hid (by rw [heldW, if_pos hb0])
  have hb' : (b == 0) = true := by simpa using hb0
  clear hb0 hg
  go_wp2_with fail
  go_ret
  exact ⟨by rw [okB_yes (by rw [HW.out]; exact okH_nil es)]; rfl, ⟨es, M.out, Lib.hid fun _ => by rw [HW.out]; rfl⟩, grown_of_below15 QB.out _⟩
 have hb' : (b == 0) = false := by simpa using hb0
 obtain ⟨hc0, hc1⟩ := hg hb0
 obtain ⟨k, rfl⟩ : ∃ k : Nat, c = (k : Int) := ⟨c.toNat, by omega⟩
 have HW : Hid (heldW x b k = x.path.drop k ++ x.over) := Lib.hid (by rw [heldW, if_neg hb0, Int.toNat_natCast])
 obtain ⟨ii0, hi, hz0, hz1, hz2⟩ := info_parts infoInt
 have I0 := Lib.hid hi
 have I2 := Lib.hid hz1
 obtain ⟨D0, hd0⟩ : ∃ D0, D0 = (if c0 = k then P0 else P0.map (·.add (k * 1))) := ⟨_, rfl⟩
 obtain ⟨dn, hdn⟩ : ∃ m, m = n0 - k := ⟨_, rfl⟩
 obtain ⟨dc, hdc⟩ : ∃ m, m = c0 - k := ⟨_, rfl⟩
 have HD0 := Lib.hid hd0
 have hcap : n0 ≤ c0 := by
  obtain ⟨A', c', e, h1, h2, -⟩ := HIN.out.path
  cases e
  omega
 have HKN : Hid (k ≤ n0 ∧ n0 ≤ c0 ∧ dn = n0 - k ∧ dc = c0 - k) := Lib.hid ⟨by have := HNN.out.1; omega, hcap, hdn, hdc⟩
 have HDR : Hid (IntsIn q q.heap.size (.slice D0 dn dc) (x.path.drop k)) := Lib.hid (by rw [hd0, hdn, hdc]; exact IntsIn.drop15 HIN.out.path (by omega))
 have HOV : Hid (IntsIn q q.heap.size (.slice P1 n1 c1) x.over) := Lib.hid HIN.out.over
 have HLN : Hid (dn = (x.path.drop k).length ∧ n1 = x.over.length ∧ 1 ≤ dn + n1 ∧ dn + n1 ≤ 1000) := Lib.hid ⟨by rw [List.length_drop, hdn, HNN.out.1], HNN.out.2.1, by have := HNN.out; omega, by have := HNN.out; omega⟩
 clear hi hz0 hz1 hz2 hd0 hdn hdc hcap hb0 hg hc0 hc1 hl2 HNN
 go_upto_region 3 with fail
 clear j0 j1 j2 j3 hb'
 refine wp_region_held_drew (S := fun v => Below q.heap.size q v) (by kernel_rfl) (Below.refl q.heap.size q).drew (fun hHeld => ?_)
 refine tk 0 hHeld ?_;refine tkc 1 hHeld (fun w' hSw => cell4_of ((hSw.block _ (heap_lt X.out)).trans X.out)) ?_;refine tk 2 hHeld ?_;refine tkc 3 hHeld (fun w' hSw => cell4_of ((hSw.block _ (heap_lt Y.out)).trans Y.out)) ?_
 refine wpAnyH_take (i := 4) rfl (by kernel_rfl) (by kernel_rfl) (by kernel_rfl) (fun _ _ _ h => h) (yieldsIf_slice_from15 (by rfl) 61 _ _ rfl rfl rfl Tryz.underlying61 I0.out I2.out HKN.out.1 HKN.out.2.1 HD0.out) hHeld ?_
 simp only [zn, Act.put]
 rw [← HKN.out.2.2.1, ← HKN.out.2.2.2]
 refine tk 5 hHeld ?_;refine tkc 6 hHeld (fun w' hSw => cell4_of ((hSw.block _ (heap_lt X.out)).trans X.out)) ?_;refine tk 10 hHeld ?_
 have tb := (Below.refl q.heap.size q).drew
 generalize q.drew = q0 at tb hHeld ⊢
 have HB := Lib.hid tb
 clear tb
 refine tkr 7 (fun K hK => ?_)
 go_simp
 have tb := HB.out.alloc HB.out.size (.cells #[.slice D0 dn dc, .slice P1 n1 c1] 61)
 have tx := heap_alloc_self q0 (.cells #[.slice D0 dn dc, .slice P1 n1 c1] 61)
 refine hK.out _ _ ?_ fun hHeld => ?_;exact tb;clear hK K;try simp only [zn, Act.put]
 generalize q0.alloc (.cells #[.slice D0 dn dc, .slice P1 n1 c1] 61) = q1 at tb tx hHeld ⊢
 obtain ⟨p1, hp⟩ : ∃ n, n = q0.heap.size := ⟨_, rfl⟩
 rw [← hp] at tx ⊢
 clear HB
 have HB := Lib.hid tb
 have X1 := Lib.hid tx
 clear tb tx hp
 refine tkr 8 (fun K hK => ?_)
 go_simp
 refine (concat_own p1 _ _ _ _ _ _ (x.path.drop k) x.over q1 X1.out ((HDR.out.below intR HB.out).more intR HB.out.size) ((HOV.out.below intR HB.out).more intR HB.out.size) HLN.out.1 HLN.out.2.1 HLN.out.2.2.1 HLN.out.2.2.2).mono ?_
 rintro e q2 ⟨A6, c6, N, rfl, hN, hol, b6⟩
 have I6 : Hid (IntsIn q2 q2.heap.size (.slice A6 N c6) (x.path.drop k ++ x.over)) := Lib.hid (hol.in_ intR_cells)
 have HN := Lib.hid hN
 have tb := HB.out.trans (b6.mono HB.out.size)
 have hNb : N ≤ 9223372036854775807 := by rw [hN]; have := HLN.out; rw [List.length_append]; omega
 clear HB b6 hol X1 hN
 have HB := Lib.hid tb
 clear tb
 try go_wp2_with fail
 refine hK.out _ _ ?_ fun hHeld => ?_;exact HB.out;clear hK K;try simp only [zn, Act.put]
 refine tk 9 hHeld ?_
 refine wpAnyH_done (by kernel_rfl) ?_ _
 go_wp2_with fail
 have HIL : Hid (Below q.heap.size q q2) := HB
 have Q0 : Hid (w.grownBy q2 (some m1)) := Lib.hid (grown_of_below15 (QB.out.trans (HB.out.mono QB.out.size)) _)
 have C2 := Lib.hid ((HB.out.block _ (heap_lt C.out)).trans C.out)
 have L2 := Lib.hid ((HB.out.block _ (heap_lt L.out)).trans L.out)
 have M2 : Hid (MapBI q2 m1 es) := Lib.hid ((HB.out.block _ M.out.lt).trans M.out)
 obtain ⟨xs, hxs⟩ : ∃ xs, xs = x.path.drop k ++ x.over := ⟨_, rfl⟩
 have HX : Hid (heldW x b k = xs) := Lib.hid (by rw [HW.out, hxs])
 rw [← hxs] at I6 HN
 clear hxs HW HD0 HKN HDR HOV HLN HIN HB HIL C L M QB X Y I0 I2
 go_loopw [22] (fun s22 wr => ∃ i : Nat, i ≤ N ∧ s22 = .int .i64 i ∧ okH es (xs.take i) ∧ MapBI wr m1 (putH es a (xs.take i)) ∧ q2.grownBy wr (some m1)) (fun s22 _ => N - (intOf s22).toNat)
 case atStart => exact ⟨0, by omega, by go_num, okH_nil es, M2.out, World.grownBy.refl q2 _⟩
 case round =>
  obtain ⟨i, hi, rfl, hok, hmw, hgw⟩ := hrel
  have OK := Lib.hid hok
  have MW := Lib.hid hmw
  have GW := Lib.hid hgw
  have CW := Lib.hid ((hgw.block _ (heap_lt C2.out) (fun e => by injection e with e; have h1 := C2.out; have h2 := M2.out; rw [e] at h1; rw [show q2.heap[m1]? = _ from h2] at h1; cases h1)).trans C2.out)
  have LW := Lib.hid ((hgw.block _ (heap_lt L2.out) (fun e => by injection e with e; have h1 := L2.out; have h2 := M2.out; rw [e] at h1; rw [show q2.heap[m1]? = _ from h2] at h1; cases h1)).trans L2.out)
  clear hok hmw hgw
  by_cases hlt : i < N
  ·have hlt' : (i : Int) < N := by omega
   have hir : i < xs.length := by rw [← HN.out]; exact hlt
   obtain ⟨bk, off, rfl, hbk, hc0⟩ := I6.out.at hir
   obtain ⟨y, hy⟩ : ∃ y, y = xs[i] := ⟨_, rfl⟩
   have hcell : wr.cell? ⟨bk, off + i, none⟩ = some (.int .i64 y) := by
    have hc1 : q2.cell? ⟨bk, off + i, none⟩ = some (.int .i64 xs[i]) := by simpa [IntR] using hc0
    rw [hy]
    exact grown_cell15 GW.out M2.out hbk hc1
   have HY : Hid (xs.take (i + 1) = xs.take i ++ [y]) := Lib.hid (by rw [hy, List.take_succ_eq_append_getElem hir])
   have HPRE : Hid (xs.take (i + 1) ++ xs.drop (i + 1) = xs) := Lib.hid (List.take_append_drop _ _)
   clear hc0 hbk hy
   go_wp2_with fail
   refine (take1_any y pc pl m1 m2 (putH es a (xs.take i)) a b k d wr CW.out LW.out MW.out).mono ?_
   rintro e w5 ⟨rfl, hm5, hg5⟩
   have H5 := Lib.hid hm5
   have G5 := Lib.hid (GW.out.trans hg5)
   clear hm5 hg5 hcell
   cases e0 : lookI (putH es a (xs.take i)) y with
   | none =>
    have OK' : Hid (okH es (xs.take (i + 1))) := Lib.hid (by rw [HY.out]; exact (okH_snoc ND.out).2 ⟨OK.out, e0⟩)
    have H6 : Hid (MapBI w5 m1 (putH es a (xs.take (i + 1)))) := Lib.hid (by rw [HY.out, putH_snoc]; exact H5.out)
    clear e0
    go_wp2_with fail
    go_roundw
    case measure => simp [intOf]; omega
    case rel => exact ⟨i + 1, by omega, by go_num, OK'.out, H6.out, G5.out⟩
   | some v0 =>
    have NO : Hid (¬ okH es xs) := Lib.hid (fun h => by
     rw [← HPRE.out] at h
     have h := okH_pre h
     rw [HY.out, okH_snoc ND.out (id := a)] at h
     rw [e0] at h; cases h.2)
    clear e0
    go_wp2_with fail
    go_ret
    exact ⟨by rw [okB_no (by rw [HX.out]; exact NO.out)]; rfl, ⟨_, H5.out, Lib.hid fun h => absurd (by rw [HX.out] at h; exact h) NO.out⟩, Q0.out.trans G5.out⟩
  ·obtain rfl : i = N := by omega
   have hlt' : ¬ (i : Int) < i := by omega
   have HT : Hid (xs.take i = xs) := Lib.hid (List.take_of_length_le (Nat.le_of_eq HN.out.symm))
   have OK' : Hid (okH es xs) := Lib.hid (HT.out ▸ OK.out)
   have M' : Hid (MapBI wr m1 (putH es a xs)) := Lib.hid (HT.out ▸ MW.out)
   go_wp2_with fail
   go_ret
   exact ⟨by rw [okB_yes (by rw [HX.out]; exact OK'.out)]; rfl, ⟨_, M'.out, Lib.hid fun _ => by rw [HX.out]⟩, Q0.out.trans GW.out⟩
set_option maxHeartbeats 16000000 in
theorem asks_any (P0 P1 P2 : Option Addr) (n0 n1 n2 c0 c1 c2 : Nat) (nr : Int) (x : Wy) (a b c d : Int) (pc pl m1 m2 : Nat) (fs : EntsI) (w : World) (hin : WyIn w w.heap.size (.slice P0 n0 c0) (.slice P1 n1 c1) (.slice P2 n2 c2) x) (hn : n0 = x.path.length ∧ n1 = x.over.length ∧ n2 = x.asks.length)
  (hg : b ≠ 0 → 0 ≤ c ∧ c < (x.path.length : Int)) (hl2 : x.path.length + x.over.length ≤ 1000) (hc : w.heap[pc]? = some (.cells #[.map (some m1), .map (some m2)] 70 (0, 0))) (hm : MapBI w m2 fs) (hnd : KeysNdI fs) (hv : ∀ y v, lookI fs y = some v → ∃ z : Int, v = .int .i64 z) :
  Calls Tryz.prog 79 #[.agg #[.slice P0 n0 c0, .slice P1 n1 c1, .slice P2 n2 c2, .int .i64 nr], .agg #[.int .i64 a, .int .u8 b, .int .i64 c, .int .i64 d], .func (.func 80) #[] #[.pointer (some ⟨pc, 0, none⟩)]] w fun e w' => e = .returned (.bool (okB (okA fs (askedW x b c)))) ∧ (∃ fs', MapBI w' m2 fs' ∧ Hid (okA fs (askedW x b c) → fs' = putA fs (askedW x b c))) ∧ w.grownBy w' (some m2) := by
 have HNN := Lib.hid hn
 clear hn
 obtain ⟨hx, hy, hqb⟩ := two_boxes w (.cells #[.slice P0 n0 c0, .slice P1 n1 c1, .slice P2 n2 c2, .int .i64 nr] 96) (.cells #[.int .i64 a, .int .u8 b, .int .i64 c, .int .i64 d] 53)
 have hc' := (hqb.block _ (heap_lt hc)).trans hc
 have hm' : MapBI _ m2 fs := (hqb.block _ hm.lt).trans hm
 go_enter Tryz.func79, Tryz.ntmps79
 go_upto_region 1 with fail
 generalize (w.alloc (.cells #[.slice P0 n0 c0, .slice P1 n1 c1, .slice P2 n2 c2, .int .i64 nr] 96)).alloc (.cells #[.int .i64 a, .int .u8 b, .int .i64 c, .int .i64 d] 53) = q at hx hy hqb hc' hm' ⊢
 have QB := Lib.hid hqb
 have X := Lib.hid hx
 have Y := Lib.hid hy
 have C := Lib.hid hc'
 have M := Lib.hid hm'
 have ND := Lib.hid hnd
 have HV := Lib.hid hv
 have HIN := Lib.hid (show AsksIn q q.heap.size _ x.asks from (hin.asks.below sigR hqb).more sigR hqb.size)
 obtain ⟨N, hN⟩ : ∃ N, N = n2 := ⟨_, rfl⟩
 have hNb : n2 ≤ 9223372036854775807 := by
  obtain ⟨A', c', e, h1, h2, -⟩ := HIN.out
  cases e
  unfold maxLen at h2
  omega
 have HN := Lib.hid HNN.out.2.2
 obtain ⟨l0, l1, l2, l3⟩ := cell4_of hy
 obtain ⟨k0, k1, k2, k3⟩ := cell4_of hx
 clear hx hy hc' hm' hc hm hnd hin hqb hv HNN hN N hl2 hg
 by_cases hb0 : b = 0
 ·have HW : Hid (askedW x b c = []) := Lib.hid (by rw [askedW, if_pos hb0])
  have hb' : (b == 0) = true := by simpa using hb0
  clear hb0
  go_wp2_with fail
  go_ret
  exact ⟨by rw [okB_yes (by rw [HW.out]; exact okA_nil fs)]; rfl, ⟨fs, M.out, Lib.hid fun _ => by rw [HW.out]; rfl⟩, grown_of_below15 QB.out _⟩
 have hb' : (b == 0) = false := by simpa using hb0
 obtain ⟨xs, hxs⟩ : ∃ xs, xs = x.asks := ⟨_, rfl⟩
 have HX : Hid (askedW x b c = xs.filter (standsA c)) := Lib.hid (by rw [askedW, if_neg hb0, hxs])
 rw [← hxs] at HIN HN
 have Q0 : Hid (w.grownBy q (some m2)) := Lib.hid (grown_of_below15 QB.out _)
 clear hxs hb0
 go_upto_region 4 with fail
 clear l0 l1 l2 l3 k0 k1 k2 k3 hb' X QB
 go_loopw [16] (fun s16 wr => ∃ i : Nat, i ≤ n2 ∧ s16 = .int .i64 i ∧ okA fs ((xs.take i).filter (standsA c)) ∧ MapBI wr m2 (putA fs ((xs.take i).filter (standsA c))) ∧ q.grownBy wr (some m2)) (fun s16 _ => n2 - (intOf s16).toNat)
 case atStart => exact ⟨0, by omega, by go_num, okA_nil fs, M.out, World.grownBy.refl q _⟩
 case round =>
  obtain ⟨i, hi, rfl, hok, hmw, hgw⟩ := hrel
  have OK := Lib.hid hok
  by_cases hlt : i < n2
  ·have hlt' : (i : Int) < n2 := by omega
   have hir : i < xs.length := by rw [← HN.out]; exact hlt
   obtain ⟨bk, off, rfl, hbk, hc0, hc1, hc2⟩ := HIN.out.at hir
   obtain ⟨kx, ky, kz, hk⟩ : ∃ kx ky kz, xs[i] = (kx, ky, kz) := ⟨_, _, _, rfl⟩
   rw [hk] at hc0 hc1 hc2
   dsimp only at hc0 hc1 hc2
   have f0 : wr.cell? ⟨bk, off + i * 3, none⟩ = some (.int .i64 kx) := grown_cell15 hgw M.out hbk hc0
   have f1 : wr.cell? ⟨bk, off + i * 3 + 1, none⟩ = some (.int .i64 ky) := grown_cell15 hgw M.out hbk hc1
   have f2 : wr.cell? ⟨bk, off + i * 3 + 2, none⟩ = some (.int .i64 kz) := grown_cell15 hgw M.out hbk hc2
   have HT : Hid (xs.take (i + 1) = xs.take i ++ [(kx, ky, kz)]) := Lib.hid (by rw [← hk, List.take_succ_eq_append_getElem hir])
   have HPRE : Hid ((xs.take (i + 1)).filter (standsA c) ++ (xs.drop (i + 1)).filter (standsA c) = xs.filter (standsA c)) := Lib.hid (by rw [← List.filter_append, List.take_append_drop])
   have HVV : Hid (∀ v, lookI (putA fs ((xs.take i).filter (standsA c))) kx = some v → ∃ z : Int, v = .int .i64 z) := Lib.hid (fun v h => by
    rcases (putA_look _ _ ND.out OK.out kx v).1 h with ⟨a, -, -, e⟩ | h
    ·exact ⟨_, e⟩
    ·exact HV.out kx v h)
   obtain ⟨q3, hq3⟩ : ∃ x, x = wr.alloc (.cells #[.int .i64 kx, .int .i64 ky, .int .i64 kz] 108) := ⟨_, rfl⟩
   have x3 := heap_alloc_self wr (.cells #[.int .i64 kx, .int .i64 ky, .int .i64 kz] 108)
   have b3 := below_new wr (.cells #[.int .i64 kx, .int .i64 ky, .int .i64 kz] 108)
   rw [← hq3] at x3 b3
   have ne (bq : Nat) (cs : Array Value) (t : TypeId) (hq : q.heap[bq]? = some (.cells cs t (0, 0))) : q3.heap[bq]? = some (.cells cs t (0, 0)) := (b3.block _ (Nat.lt_of_lt_of_le (heap_lt hq) hgw.size)).trans ((hgw.block _ (heap_lt hq) (fun e => by injection e with e; have h2 := M.out; rw [e] at hq; rw [show q.heap[m2]? = _ from h2] at hq; cases hq)).trans hq)
   have CW := Lib.hid (ne _ _ _ C.out)
   have YW := Lib.hid (ne _ _ _ Y.out)
   have MW : Hid (MapBI q3 m2 (putA fs ((xs.take i).filter (standsA c)))) := Lib.hid ((b3.block _ hmw.lt).trans hmw)
   have GW := Lib.hid (hgw.trans (grown_of_below15 b3 (some m2)))
   have X3 := Lib.hid x3
   have HQ3 := Lib.hid hq3
   clear hok hmw hgw ne x3 b3 hq3 hc0 hc1 hc2 hbk hk
   go_upto_region 6 with fail
   rw [← HQ3.out]
   clear f0 f1 f2 HQ3
   generalize wr.heap.size = p3 at X3 ⊢
   obtain ⟨k0, k1, k2⟩ := cell3_of X3.out
   obtain ⟨l0, l1, l2, l3⟩ := cell4_of YW.out
   by_cases ha : (0 : Int) ≤ kz
   ·by_cases hac : kz < c
    ·have HSN : Hid ((xs.take (i + 1)).filter (standsA c) = (xs.take i).filter (standsA c)) := Lib.hid (by rw [HT.out]; exact stands_skip (stands_no (by omega)))
     have OK' : Hid (okA fs ((xs.take (i + 1)).filter (standsA c))) := Lib.hid (by rw [HSN.out]; exact OK.out)
     have H6 : Hid (MapBI q3 m2 (putA fs ((xs.take (i + 1)).filter (standsA c)))) := Lib.hid (by rw [HSN.out]; exact MW.out)
     go_wp2_with fail
     go_roundw
     case measure => simp [intOf]; omega
     case rel => exact ⟨i + 1, by omega, by go_num, OK'.out, H6.out, GW.out⟩
    ·have HSN : Hid ((xs.take (i + 1)).filter (standsA c) = (xs.take i).filter (standsA c) ++ [(kx, ky, kz)]) := Lib.hid (by rw [HT.out]; exact stands_snoc (stands_yes (by omega)))
     go_wp2_with fail
     refine (take2_any (kx, ky, kz) pc m1 m2 (putA fs ((xs.take i).filter (standsA c))) q3 CW.out MW.out HVV.out).mono ?_
     rintro e w5 ⟨rfl, hm5, hg5⟩
     have H5 := Lib.hid hm5
     have G5 := Lib.hid (GW.out.trans hg5)
     clear hm5 hg5 l0 l1 l2 l3 k0 k1 k2
     by_cases hgg : ∀ v, lookI (putA fs ((xs.take i).filter (standsA c))) kx = some v → v = .int .i64 ky
     ·rw [okB_yes hgg]
      have OK' : Hid (okA fs ((xs.take (i + 1)).filter (standsA c))) := Lib.hid (by rw [HSN.out]; exact (okA_snoc ND.out OK.out).2 hgg)
      have H6 : Hid (MapBI w5 m2 (putA fs ((xs.take (i + 1)).filter (standsA c)))) := Lib.hid (by rw [HSN.out, putA_snoc]; exact H5.out)
      clear hgg
      go_wp2_with fail
      go_roundw
      case measure => simp [intOf]; omega
      case rel => exact ⟨i + 1, by omega, by go_num, OK'.out, H6.out, G5.out⟩
     ·rw [okB_no hgg]
      have NO : Hid (¬ okA fs (xs.filter (standsA c))) := Lib.hid (fun h => by
       rw [← HPRE.out] at h
       have h := okA_pre h
       rw [HSN.out, okA_snoc ND.out OK.out] at h
       exact hgg h)
      clear hgg
      go_wp2_with fail
      go_ret
      exact ⟨by rw [okB_no (by rw [HX.out]; exact NO.out)]; rfl, ⟨_, H5.out, Lib.hid fun h => absurd (by rw [HX.out] at h; exact h) NO.out⟩, Q0.out.trans G5.out⟩
   ·have HSN : Hid ((xs.take (i + 1)).filter (standsA c) = (xs.take i).filter (standsA c) ++ [(kx, ky, kz)]) := Lib.hid (by rw [HT.out]; exact stands_snoc (stands_yes (by omega)))
    go_wp2_with fail
    refine (take2_any (kx, ky, kz) pc m1 m2 (putA fs ((xs.take i).filter (standsA c))) q3 CW.out MW.out HVV.out).mono ?_
    rintro e w5 ⟨rfl, hm5, hg5⟩
    have H5 := Lib.hid hm5
    have G5 := Lib.hid (GW.out.trans hg5)
    clear hm5 hg5 l0 l1 l2 l3 k0 k1 k2
    by_cases hgg : ∀ v, lookI (putA fs ((xs.take i).filter (standsA c))) kx = some v → v = .int .i64 ky
    ·rw [okB_yes hgg]
     have OK' : Hid (okA fs ((xs.take (i + 1)).filter (standsA c))) := Lib.hid (by rw [HSN.out]; exact (okA_snoc ND.out OK.out).2 hgg)
     have H6 : Hid (MapBI w5 m2 (putA fs ((xs.take (i + 1)).filter (standsA c)))) := Lib.hid (by rw [HSN.out, putA_snoc]; exact H5.out)
     clear hgg
     go_wp2_with fail
     go_roundw
     case measure => simp [intOf]; omega
     case rel => exact ⟨i + 1, by omega, by go_num, OK'.out, H6.out, G5.out⟩
    ·rw [okB_no hgg]
     have NO : Hid (¬ okA fs (xs.filter (standsA c))) := Lib.hid (fun h => by
      rw [← HPRE.out] at h
      have h := okA_pre h
      rw [HSN.out, okA_snoc ND.out OK.out] at h
      exact hgg h)
     clear hgg
     go_wp2_with fail
     go_ret
     exact ⟨by rw [okB_no (by rw [HX.out]; exact NO.out)]; rfl, ⟨_, H5.out, Lib.hid fun h => absurd (by rw [HX.out] at h; exact h) NO.out⟩, Q0.out.trans G5.out⟩
  ·obtain rfl : i = n2 := by omega
   have hlt' : ¬ (i : Int) < i := by omega
   have HT : Hid (xs.take i = xs) := Lib.hid (List.take_of_length_le (Nat.le_of_eq HN.out.symm))
   have OK' : Hid (okA fs (xs.filter (standsA c))) := Lib.hid (HT.out ▸ OK.out)
   have M' : Hid (MapBI wr m2 (putA fs (xs.filter (standsA c)))) := Lib.hid (HT.out ▸ hmw)
   have GW := Lib.hid hgw
   clear hok hmw hgw
   go_wp2_with fail
   go_ret
   exact ⟨by rw [okB_yes (by rw [HX.out]; exact OK'.out)]; rfl, ⟨_, M'.out, Lib.hid fun _ => by rw [HX.out]⟩, Q0.out.trans GW.out⟩

theorem three_new15 (w : World) (o1 o2 o3 : Obj) : (((w.alloc o1).alloc o2).alloc o3).heap[w.heap.size]? = some o1 ∧ (((w.alloc o1).alloc o2).alloc o3).heap[w.heap.size + 1]? = some o2 ∧ (((w.alloc o1).alloc o2).alloc o3).heap[w.heap.size + 2]? = some o3 ∧ Below w.heap.size w (((w.alloc o1).alloc o2).alloc o3) := by
 obtain ⟨h1, h2, hb⟩ := two_boxes w o1 o2
 have h3 := heap_alloc_self ((w.alloc o1).alloc o2) o3
 have hb3 := below_new ((w.alloc o1).alloc o2) o3
 have hs : ((w.alloc o1).alloc o2).heap.size = w.heap.size + 2 := by rw [heap_alloc_size, heap_alloc_size]
 rw [hs] at h3
 exact ⟨(hb3.block _ (heap_lt h1)).trans h1, (hb3.block _ (heap_lt h2)).trans h2, h3, hb.trans (hb3.mono hb.size)⟩
theorem list_grown15 {α : Type} {sz : Nat} {R : El α} {W W' : World} {m : Nat} {es : EntsI} {v : Value} {xs : List α} (hf : FlatR R) (h : ListIn sz R W W.heap.size v xs) (hs : ∀ (c c' : Nat → Option Value) (x : α), (∀ k, k < sz → c k = c' k) → R W W.heap.size c x → R W W.heap.size c' x) (hfull : ∀ (c : Nat → Option Value) (x : α), R W W.heap.size c x → ∀ k, k < sz → ∃ v, c k = some v ∧ v.oneCell' = true) (hg : W.grownBy W' (some m)) (hm : MapBI W m es) : ListIn sz R W' W'.heap.size v xs := by
 obtain ⟨A, cap, h0, h1, h2, hn, h3⟩ := h
 refine ⟨A, cap, h0, h1, h2, hn, fun hp => ?_⟩
 obtain ⟨b, off, ha, hlt, hc⟩ := h3 hp
 refine ⟨b, off, ha, Nat.lt_of_lt_of_le hlt hg.size, fun j hj => ?_⟩
 have h := hc j hj
 refine hf (hs _ _ _ (fun k hk => ?_) h)
 obtain ⟨v, hv, -⟩ := hfull _ _ h k hk
 exact hv.trans (grown_cell15 hg hm hlt hv).symm
theorem way_grown15 {W W' : World} {m : Nat} {es : EntsI} {u0 u1 u2 : Value} {x : Wy} (h : WyIn W W.heap.size u0 u1 u2 x) (hg : W.grownBy W' (some m)) (hm : MapBI W m es) : WyIn W' W'.heap.size u0 u1 u2 x :=
 ⟨list_grown15 intF h.path intR_cells intR_full hg hm, list_grown15 intF h.over intR_cells intR_full hg hm, list_grown15 sigF h.asks sigR_cells sigR_full hg hm⟩
set_option maxHeartbeats 8000000 in
theorem take_any (P0 P1 P2 : Option Addr) (n0 n1 n2 c0 c1 c2 : Nat) (nr : Int) (x : Wy) (a b c d : Int) (m1 m2 : Nat) (es fs : EntsI) (w : World) (hin : WyIn w w.heap.size (.slice P0 n0 c0) (.slice P1 n1 c1) (.slice P2 n2 c2) x) (hn : n0 = x.path.length ∧ n1 = x.over.length ∧ n2 = x.asks.length)
  (hg : b ≠ 0 → 0 ≤ c ∧ c < (x.path.length : Int)) (hl2 : x.path.length + x.over.length ≤ 1000) (hne : m1 ≠ m2) (hm1 : MapBI w m1 es) (hm2 : MapBI w m2 fs) (hnd1 : KeysNdI es) (hnd2 : KeysNdI fs) (hv : ∀ y v, lookI fs y = some v → ∃ z : Int, v = .int .i64 z) :
  Calls Tryz.prog 50 #[.agg #[.map (some m1), .map (some m2)], .agg #[.slice P0 n0 c0, .slice P1 n1 c1, .slice P2 n2 c2, .int .i64 nr], .agg #[.int .i64 a, .int .u8 b, .int .i64 c, .int .i64 d]] w fun e w' => e = .returned (.bool (okB (okH es (heldW x b c) ∧ okA fs (askedW x b c)))) ∧
   (∃ es' fs', MapBI w' m1 es' ∧ MapBI w' m2 fs' ∧ Hid (okH es (heldW x b c) → okA fs (askedW x b c) → es' = putH es a (heldW x b c) ∧ fs' = putA fs (askedW x b c))) ∧ Hid ((∀ n, n ≤ m1 → n ≤ m2 → Below n w w') ∧ ∀ j, j < w.heap.size → j ≠ m1 → j ≠ m2 → w'.heap[j]? = w.heap[j]?) := by
 have HNN := Lib.hid hn
 have HG := Lib.hid hg
 have HNE := Lib.hid hne
 clear hn hg hne
 obtain ⟨hx, hy, hz, hqb⟩ := three_new15 w (.cells #[.map (some m1), .map (some m2)] 70) (.cells #[.slice P0 n0 c0, .slice P1 n1 c1, .slice P2 n2 c2, .int .i64 nr] 96) (.cells #[.int .i64 a, .int .u8 b, .int .i64 c, .int .i64 d] 53)
 have M1 : MapBI _ m1 es := (hqb.block _ hm1.lt).trans hm1
 have M2 : MapBI _ m2 fs := (hqb.block _ hm2.lt).trans hm2
 have hin' := (hin.below hqb).more hqb.size
 have hlt := And.intro hm1.lt hm2.lt
 go_enter Tryz.func50, Tryz.ntmps50
 go_upto_region 1 with fail
 generalize ((w.alloc (.cells #[.map (some m1), .map (some m2)] 70)).alloc (.cells #[.slice P0 n0 c0, .slice P1 n1 c1, .slice P2 n2 c2, .int .i64 nr] 96)).alloc (.cells #[.int .i64 a, .int .u8 b, .int .i64 c, .int .i64 d] 53) = q at hx hy hz hqb M1 M2 hin' ⊢
 have QB0 := Lib.hid hqb.size
 generalize hp : w.heap.size = p at hx hy hz hqb hlt ⊢
 have HP := Lib.hid hp
 have QB := Lib.hid hqb
 have X := Lib.hid hx
 have Y := Lib.hid hy
 have Z := Lib.hid hz
 have N1 := Lib.hid M1
 have N2 := Lib.hid M2
 have IN := Lib.hid hin'
 have LT := Lib.hid hlt
 have ND1 := Lib.hid hnd1
 have ND2 := Lib.hid hnd2
 have HV := Lib.hid hv
 have HL := Lib.hid hl2
 clear hp hqb hx hy hz M1 M2 hin' hlt hnd1 hnd2 hv hl2 hin hm1 hm2
 obtain ⟨j0, j1, j2, j3⟩ := cell4_of Y.out
 obtain ⟨l0, l1, l2, l3⟩ := cell4_of Z.out
 go_wp2_with fail
 refine (holds_any P0 P1 P2 n0 n1 n2 c0 c1 c2 nr x a b c d p (p + 2) m1 m2 es q IN.out HNN.out HG.out HL.out X.out Z.out N1.out ND1.out).mono ?_
 rintro e w1 ⟨rfl, ⟨es', hm1', hes'⟩, hg1⟩
 have Y1 := Lib.hid ((hg1.block _ (heap_lt Y.out) (fun e => by injection e with e; have := LT.out.1; omega)).trans Y.out)
 have Z1 := Lib.hid ((hg1.block _ (heap_lt Z.out) (fun e => by injection e with e; have := LT.out.1; omega)).trans Z.out)
 have X1 := Lib.hid ((hg1.block _ (heap_lt X.out) (fun e => by injection e with e; have := LT.out.1; omega)).trans X.out)
 have G1 := Lib.hid hg1
 have K1 := Lib.hid hm1'
 have E1 : Hid (okH es (heldW x b c) → es' = putH es a (heldW x b c)) := hes'
 have K2 : Hid (MapBI w1 m2 fs) := Lib.hid ((hg1.block _ N2.out.lt (fun e => HNE.out (by injection e with e; exact e.symm))).trans N2.out)
 have BL : Hid (∀ n, n ≤ m1 → n ≤ m2 → Below n w w1) := Lib.hid (fun n h1 h2 => (QB.out.mono (by have := LT.out.1; omega)).trans (grown_below15 G1.out h1 (by have := LT.out.1; have := QB.out.size; rw [HP.out] at this; omega)))
 have BK : Hid (∀ j, j < w.heap.size → j ≠ m1 → j ≠ m2 → w1.heap[j]? = w.heap[j]?) := Lib.hid (fun j hj h1 h2 => (G1.out.block j (Nat.lt_of_lt_of_le hj QB0.out) (fun e => h1 (by injection e))).trans (QB.out.block j (by rw [HP.out] at hj; exact hj)))
 have IN1 : Hid (WyIn w1 w1.heap.size (.slice P0 n0 c0) (.slice P1 n1 c1) (.slice P2 n2 c2) x) := Lib.hid (way_grown15 IN.out G1.out N1.out)
 clear hg1 hm1' hes' j0 j1 j2 j3 l0 l1 l2 l3
 by_cases h1 : okH es (heldW x b c)
 rotate_left
 ·rw [okB_no h1]
  have HF : Hid (okB (okH es (heldW x b c) ∧ okA fs (askedW x b c)) = false) := Lib.hid (okB_no (fun h => h1 h.1))
  have H1 := Lib.hid h1
  clear h1
  go_wp2_with fail
  go_ret
  exact ⟨by rw [HF.out]; rfl, ⟨es', fs, K1.out, K2.out, Lib.hid fun h => absurd h H1.out⟩, Lib.hid ⟨BL.out, BK.out⟩⟩
 rw [okB_yes h1]
 have H1 := Lib.hid h1
 clear h1
 obtain ⟨j0, j1, j2, j3⟩ := cell4_of Y1.out
 obtain ⟨l0, l1, l2, l3⟩ := cell4_of Z1.out
 go_wp2_with fail
 refine (asks_any P0 P1 P2 n0 n1 n2 c0 c1 c2 nr x a b c d p (p + 2) m1 m2 fs w1 IN1.out HNN.out HG.out HL.out X1.out K2.out ND2.out HV.out).mono ?_
 rintro e w2 ⟨rfl, ⟨fs', hm2', hfs'⟩, hg2⟩
 have K1' : Hid (MapBI w2 m1 es') := Lib.hid ((hg2.block _ K1.out.lt (fun e => HNE.out (by injection e))).trans K1.out)
 have K2' := Lib.hid hm2'
 have BK' : Hid (∀ j, j < w.heap.size → j ≠ m1 → j ≠ m2 → w2.heap[j]? = w.heap[j]?) := Lib.hid (fun j hj h1 h2 => (hg2.block j (Nat.lt_of_lt_of_le hj (Nat.le_trans QB0.out G1.out.size)) (fun e => h2 (by injection e))).trans (BK.out j hj h1 h2))
 have BL' : Hid (∀ n, n ≤ m1 → n ≤ m2 → Below n w w2) := Lib.hid (fun n h1 h2 => (BL.out n h1 h2).trans (grown_below15 hg2 h2 (Nat.le_trans h1 (Nat.le_of_lt K1.out.lt))))
 have E2 : Hid (okA fs (askedW x b c) → fs' = putA fs (askedW x b c)) := hfs'
 clear hg2 hm2' hfs' j0 j1 j2 j3 l0 l1 l2 l3
 by_cases h2 : okA fs (askedW x b c)
 ·rw [okB_yes h2]
  have HF : Hid (okB (okH es (heldW x b c) ∧ okA fs (askedW x b c)) = true) := Lib.hid (okB_yes ⟨H1.out, h2⟩)
  clear h2
  go_wp2_with fail
  go_ret
  exact ⟨by rw [HF.out]; rfl, ⟨es', fs', K1'.out, K2'.out, Lib.hid fun h h' => ⟨E1.out h, E2.out h'⟩⟩, Lib.hid ⟨BL'.out, BK'.out⟩⟩
 ·rw [okB_no h2]
  have HF : Hid (okB (okH es (heldW x b c) ∧ okA fs (askedW x b c)) = false) := Lib.hid (okB_no (fun h => h2 h.2))
  clear h2
  go_wp2_with fail
  go_ret
  exact ⟨by rw [HF.out]; rfl, ⟨es', fs', K1'.out, K2'.out, Lib.hid fun h h' => ⟨E1.out h, E2.out h'⟩⟩, Lib.hid ⟨BL'.out, BK'.out⟩⟩
end Go.Proofs.YtemmgmjhomgbbaaGreat
