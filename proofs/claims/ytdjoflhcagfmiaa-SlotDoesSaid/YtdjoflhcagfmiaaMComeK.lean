/-
  The iterator over the pieces of the writes that wait, where a list tells how much is kept of each.
  Conditions: as for the one that keeps all.
-/
import Derived.Test.YtdjoflhcagfmiaaMCome
set_option linter.unusedVariables false
set_option linter.unusedSimpArgs false
set_option maxRecDepth 100000
namespace Go.Proofs.Ytdjoflhcagfmiaa
open Go.RowKit Go.Shelf

attribute [local go_sem] Oper.semAt_some

set_option maxRecDepth 100000 in
set_option maxHeartbeats 2000000 in
theorem pieces1_kept (n : Nat) (hn : 1 ≤ n) (l bw bk base : Nat) (w0 : World) (ws : List Wr) (ks : List Nat) (hlen : ks.length = ws.length) (hk1 : ∀ k ∈ ks, k ≤ 128) (hw : ∀ w ∈ ws, okW w) (hm : ws.length ≤ 1000)
    (wv : Value) (hwv : WtsIn w0 base wv ws) (bq : Nat) (KB : World → Prop)
    (hKB : ∀ W W', KB W → KeepP base W W' → KB W')
    (hkept : ∀ (W : World) (i : Nat) (h : i < ks.length), KB W → CallsIn Fence.wide (n - 1) Try.prog 53 #[.int .i64 (i : Int), .pointer (some ⟨bq, 0, none⟩)] W fun e W' => e = .returned (.int .i64 (ks[i] : Nat)) ∧ W = W')
    (J Jx : List (Pc w0 base ws ks) → World → Prop)
    (W : World) (hJ : AbidesFrom W.heap.size J)
    (hY : ∀ pre x W, J pre W → pre.length < ws.length → YieldAt Fence.wide (n - 1) Try.prog l (encP x) W fun e W' =>
      (e = .returned (.bool true) ∧ J (pre ++ [x]) W' ∧ KeepP base W W') ∨ (e = .returned (.bool false) ∧ Jx (pre ++ [x]) W'))
    (hbase : base ≤ W.heap.size) (h0w : Below base w0 W) (hbw : Boxed W bw 27 wv) (hbk : Boxed W bk 91 (.func (.func 53) #[] #[.pointer (some ⟨bq, 0, none⟩)])) (hKB0 : KB W) (h0 : J [] W) :
    CallsIn Fence.wide n Try.prog 74 #[.func (.yield l) #[] #[], .pointer (some ⟨bw, 0, none⟩), .pointer (some ⟨bk, 0, none⟩)] W fun e W' => (∃ v, e = .returned v) ∧
      ((∃ xs, xs.map (·.i) = List.range ws.length ∧ J xs W') ∨ ∃ pre, True ∧ Jx pre W') := by
  have HW := Lib.hid hwv
  obtain ⟨A, cap, rfl, -, -, -, -⟩ := hwv
  have hcw := hbw.cell
  have hck := hbk.cell
  refine callsIn_of_wp Try.func74 rfl trivial ?_ rfl
  simp only [Try.ntmps74, List.size_toArray, List.length_cons, List.length_nil, Nat.reduceAdd, Nat.reduceSub, Array.replicate_succ, Array.replicate_zero, List.push_toArray, List.append_toArray, List.nil_append, List.cons_append]
  gi_wp2
  clear hcw hck
  gi_loopw [8] (fun s8 wr => ∃ (k : Nat) (pre : List (Pc w0 base ws ks)), k ≤ ws.length ∧ s8 = .int .i64 k ∧ pre.map (·.i) = List.range k ∧ J pre wr ∧ KeepP base W wr) (fun s8 _ => ws.length - (intOf s8).toNat)
  case atStart => exact ⟨0, [], Nat.zero_le _, rfl, rfl, h0, KeepP.refl _ _⟩
  case round =>
    obtain ⟨k, pre, hk, rfl, hpre, hJs, hkp⟩ := hrel
    by_cases hlt : k < ws.length
    · have hlt' : (k : Int) < ws.length := by omega
      obtain ⟨b, off, u, rfl, hbb, hc0, hc1, ht⟩ := HW.out.at hlt
      have hc0 := ((h0w.trans hkp.1).cell (p := ⟨b, _, none⟩) hbb).trans hc0
      have hc1 := ((h0w.trans hkp.1).cell (p := ⟨b, _, none⟩) hbb).trans hc1
      have HT := Lib.hid ht
      obtain ⟨A3, c3, rfl, -, -, -, -⟩ := ht
      have hok := hw _ (List.getElem_mem hlt)
      have hl : ws[k].2.length = 128 := hok.2.2
      gi_wp2
      have hq1 : (wr.alloc (.cells #[.int .i64 ws[k].1, .slice A3 128 c3] 52)).heap[wr.heap.size]? = some (.cells #[.int .i64 ws[k].1, .slice A3 128 c3] 52 (0, 0)) := heap_alloc_self _ _
      have hkq : KeepP base W (wr.alloc (.cells #[.int .i64 ws[k].1, .slice A3 128 c3] 52)).drew := (hkp.alloc (Nat.le_trans hbase hkp.1.size) _).drew
      have hJq : J pre (wr.alloc (.cells #[.int .i64 ws[k].1, .slice A3 128 c3] 52)).drew := abides_drew hJ (abides_alloc hJ _ hJs)
      generalize hqe : wr.alloc (.cells #[.int .i64 ws[k].1, .slice A3 128 c3] 52) = q at hq1 hkq hJq ⊢
      clear hqe
      obtain ⟨qc0, qc1⟩ := cell2_of hq1
      have qck := (hkq.2 _ _ _ (by decide) hbk).cell
      have hkl : k < ks.length := by omega
      have hkc := hkept q.drew k hkl (hKB _ _ hKB0 hkq)
      have hkk := hk1 ks[k] (List.getElem_mem hkl)
      have hkg : ks.getD k 0 = ks[k] := by rw [List.getD_eq_getElem?_getD, List.getElem?_eq_getElem hkl]; rfl
      have hcut : Txt w0 base (.slice A3 ks[k] c3) (ws[k].2.take (ks.getD k 0)) := by
        rw [hkg]; exact HT.out.cut (by rw [hl]; exact hkk)
      obtain ⟨xx, hx1, hx2⟩ : ∃ xx : Pc w0 base ws ks, xx.i = k ∧ encP xx = #[.int .i64 ws[k].1, .slice A3 ks[k] c3] := ⟨⟨k, .slice A3 ks[k] c3, hlt, hcut⟩, rfl, rfl⟩
      have hround := hY pre xx q.drew hJq (by rw [← List.length_map (f := (·.i)), hpre, List.length_range]; exact hlt)
      rw [hx2] at hround
      have hround' := YieldAt.mono (R' := fun e W' => ∃ c, e = .returned (.bool c) ∧ Went c (J (pre ++ [xx]) W' ∧ KeepP base q.drew W') (Jx (pre ++ [xx]) W')) hround (by
        rintro e W' (⟨rfl, h⟩ | ⟨rfl, h⟩)
        · exact ⟨true, rfl, .inl ⟨rfl, h⟩⟩
        · exact ⟨false, rfl, .inr ⟨rfl, h⟩⟩)
      clear hround hcut hkg hx2
      generalize ks[k] = kd at hkc hkk hround'
      obtain ⟨fn, tmps, assign, body, hy, hR⟩ := hround'
      have hkd0 : (0 : Int) ≤ kd := by omega
      have hkd1 : (kd : Int) ≤ c3 := by obtain ⟨A4, c4, e, h1, _⟩ := HT.out; cases e; omega
      have X1 := Lib.hid hx1
      have HR := Lib.hid hR
      have HKQ := Lib.hid hkq
      have HPRE := Lib.hid hpre
      have HKP := Lib.hid hkp
      clear hx1 hR hkq hJq hpre hkp hJs
      refine wpIn_mono (Q := Behind (fun c => { tmps := #[.func (.yield l) #[] #[], .pointer (some ⟨bw, 0, none⟩), .pointer (some ⟨bk, 0, none⟩), undef, .int .i64 k, .pointer (some ⟨wr.heap.size, 0, none⟩), .slice (some ⟨b, off, none⟩) ws.length cap, .int .i64 ws.length, .int .i64 k, .bool true, .int .i64 k, .pointer (some ⟨b, off + k * 2, none⟩), .agg #[.int .i64 ws[k].1, .slice A3 128 c3], .func (.yield l) #[] #[], .pointer (some ⟨wr.heap.size, 0, none⟩), .int .i64 ws[k].1, .pointer (some ⟨wr.heap.size, 1, none⟩), .slice A3 128 c3, .func (.func 53) #[] #[.pointer (some ⟨bq, 0, none⟩)], .int .i64 k, .int .i64 kd, .slice A3 kd c3, .bool c, .bool (!c), u24], defers := [] }) (fun c W' => Went c (J (pre ++ [xx]) W' ∧ KeepP base q.drew W') (Jx (pre ++ [xx]) W'))) ?_ ?_
      · gi_region_with (first | (refine ⟨trivial, ?_⟩; refine hkc.mono ?_; rintro e w' ⟨rfl, rfl⟩) | (refine HR.out.mono ?_; rintro e W' ⟨c, rfl, hwent⟩) | (refine ⟨fun _ h => (by cases h), ?_⟩; refine HR.out.mono ?_; rintro e W' ⟨c, rfl, hwent⟩))
        all_goals exact ⟨_, rfl, hwent⟩
      · rintro e a' W3 hb
        cases e with
        | normal =>
          obtain ⟨c, rfl, hwent⟩ := hb
          rcases hwent with ⟨rfl, hJ3, hk3⟩ | ⟨rfl, hJx3⟩
          · gi_wp2
            go_roundw
            case rel => exact ⟨k + 1, pre ++ [xx], by omega, by simp, by rw [List.map_append, HPRE.out, List.range_succ, List.map_cons, X1.out]; rfl, hJ3, HKQ.out.trans hk3⟩
            case measure => simp [intOf]; omega
          · gi_wp2
            refine bodyPost_ret (results_none rfl _ _ _) rfl ?_
            exact ⟨⟨_, rfl⟩, .inr ⟨_, trivial, hJx3⟩⟩
        | _ => exact hb.elim
    · obtain rfl : k = ws.length := by omega
      gi_wp2
      go_end0
      exact ⟨⟨_, rfl⟩, .inl ⟨pre, hpre, hJs⟩⟩

end Go.Proofs.Ytdjoflhcagfmiaa

/-
  What comes of a disk by how much is kept of each write, as the program makes it.
  Conditions: the disk may be.
-/
set_option linter.unusedVariables false
set_option linter.unusedSimpArgs false
set_option maxRecDepth 100000
namespace Go.Proofs.Ytdjoflhcagfmiaa
open Go.RowKit Go.Shelf

attribute [local go_sem] Oper.semAt_some

set_option maxRecDepth 100000 in
set_option maxHeartbeats 2000000 in
theorem come_kept (d : Value) (ss : List Bs) (ws : List Wr) (ks : List Nat) (w : World) (h : DiskIn w w.heap.size d ss ws) (hm : May ss ws) (hlen : ks.length = ws.length) (hk : ∀ k ∈ ks, k ≤ 128) (bq : Nat) (kv : Value) (hkb : Boxed w bq 64 kv) (hkn : NumsIn w w.heap.size kv (ks.map Int.ofNat)) :
    Calls Try.prog 52 #[d, .func (.func 53) #[] #[.pointer (some ⟨bq, 0, none⟩)]] w fun e w' => ∃ v1, e = .returned (.agg #[v1, .slice none 0 0]) ∧ SecsAt w' w.heap.size v1 (comes ss ws ks) ∧ Below w.heap.size w w' := by
  obtain ⟨v1, v2, rfl, h1, h2⟩ := h
  have H1 := Lib.hid h1
  have H2 := Lib.hid h2
  have HM := Lib.hid hm
  have HKS := Lib.hid hk
  obtain ⟨A2, c2, rfl, -, -, -, -⟩ := h2
  clear h1 hm hk
  refine (callsIn_wide (n := 3)).1 ?_
  have hmf : ∀ (fn : Fn) (first cap : Array Value) (w : World), (Instr.makeFunc fn first cap).run Try.prog w = .ok (.func fn first cap) w := fun _ _ _ _ => rfl
  have hq1 : ((w.alloc (.cells #[v1, .slice A2 ws.length c2] 29)).alloc (.cells #[.slice none 0 0, .slice none 0 0] 29)).heap[w.heap.size]? = some (.cells #[v1, .slice A2 ws.length c2] 29 (0, 0)) := by
    rw [heap_alloc_lt _ _ (by rw [heap_alloc_size]; omega)]; exact heap_alloc_self _ _
  have hq2 : ((w.alloc (.cells #[v1, .slice A2 ws.length c2] 29)).alloc (.cells #[.slice none 0 0, .slice none 0 0] 29)).heap[w.heap.size + 1]? = some (.cells #[.slice none 0 0, .slice none 0 0] 29 (0, 0)) := by
    have := heap_alloc_self (w.alloc (.cells #[v1, .slice A2 ws.length c2] 29)) (.cells #[.slice none 0 0, .slice none 0 0] 29)
    rwa [heap_alloc_size] at this
  have hqb : Below w.heap.size w ((w.alloc (.cells #[v1, .slice A2 ws.length c2] 29)).alloc (.cells #[.slice none 0 0, .slice none 0 0] 29)) := (below_new w _).alloc (by simp) _
  refine callsIn_of_wp_marks Try.func52 rfl trivial ?_ rfl
  simp only [Try.ntmps52, List.size_toArray, List.length_cons, List.length_nil, Nat.reduceAdd, Nat.reduceSub, Array.replicate_succ, Array.replicate_zero, List.push_toArray, List.append_toArray, List.nil_append, List.cons_append]
  gi_wp2_with fail
  generalize (w.alloc (.cells #[v1, .slice A2 ws.length c2] 29)).alloc (.cells #[.slice none 0 0, .slice none 0 0] 29) = q at hq1 hq2 hqb ⊢
  have QB := Lib.hid hqb
  refine ⟨trivial, ?_⟩
  refine (callsIn_wide.2 (copied_secs v1 ss q (B := w.heap.size) QB.out.size (H1.out.below QB.out) HM.out.fits.n HM.out.fits.s)).mono ?_
  rintro e w1 ⟨y1, rfl, hs1, b1⟩
  obtain ⟨A1, c1, rfl⟩ := secs_slice hs1
  have B1 := Lib.hid (QB.out.trans (b1.mono QB.out.size))
  have S1 := Lib.hid hs1
  have C1 := Lib.hid ((b1.block _ (heap_lt hq1)).trans hq1)
  have C2 := Lib.hid ((b1.block _ (heap_lt hq2)).trans hq2)
  have LQ : Hid (w.heap.size + 1 < q.heap.size ∧ q.heap.size ≤ w1.heap.size) := Lib.hid ⟨heap_lt hq2, b1.size⟩
  have hcw : ∀ o : Obj, (w1.alloc o).cell? ⟨w.heap.size, 1, none⟩ = some (.slice A2 ws.length c2) := fun o => ((below_new w1 o).cell (p := ⟨w.heap.size, 1, none⟩) (heap_lt C1.out)).trans (cell2_of C1.out).2
  clear hq1 hq2 hqb hs1 b1 QB
  gi_wp2_with fail
  have hu0 : (w1.alloc (.cells #[.slice A1 ss.length c1, .slice none 0 0] 29)).heap[w1.heap.size]? = some (.cells #[.slice A1 ss.length c1, .slice none 0 0] 29 (0, 0)) := heap_alloc_self _ _
  have hub : Below w1.heap.size w1 (w1.alloc (.cells #[.slice A1 ss.length c1, .slice none 0 0] 29)) := below_new _ _
  generalize w1.alloc (.cells #[.slice A1 ss.length c1, .slice none 0 0] 29) = u at hu0 hub ⊢
  refine ⟨trivial, ?_⟩
  refine (callsIn_wide.2 (pieces_made A2 ws.length c2 _ _ u)).mono ?_
  rintro e w2 ⟨rfl, he2⟩
  have hBW : Boxed w2 u.heap.size 27 (.slice A2 ws.length c2) := by rw [he2]; exact (Boxed.new u _ _).alloc _
  have hBK : Boxed w2 (u.heap.size + 1) 91 (.func (.func 53) #[] #[.pointer (some ⟨bq, 0, none⟩)]) := by
    rw [he2]
    have := Boxed.new (u.alloc (.cells #[.slice A2 ws.length c2] 27)) 91 (.func (.func 53) #[] #[.pointer (some ⟨bq, 0, none⟩)])
    rwa [World.size_alloc] at this
  have hb2 : Below u.heap.size u w2 := by rw [he2]; exact (below_new _ _).alloc (by simp) _
  clear he2
  have B2 := Lib.hid (B1.out.trans ((hub.trans (hb2.mono hub.size)).mono B1.out.size))
  have LW : Hid (w.heap.size + 1 < q.heap.size ∧ q.heap.size ≤ w1.heap.size ∧ w1.heap.size < u.heap.size ∧ u.heap.size ≤ w2.heap.size) := Lib.hid ⟨LQ.out.1, LQ.out.2, heap_lt hu0, hb2.size⟩
  have S2 := Lib.hid ((S1.out.below hub).below hb2)
  have O2 := Lib.hid ((hb2.block _ (heap_lt hu0)).trans hu0)
  have R2 := Lib.hid (((hub.trans (hb2.mono hub.size)).block _ (heap_lt C2.out)).trans C2.out)
  clear hu0 hub hb2 S1 C1 C2 hcw
  gi_wp2_with fail
  refine wpIn_rangeFunc_ownF rfl (by omega) (gf := 74) (lb := #[.pointer (some ⟨u.heap.size, 0, none⟩), .pointer (some ⟨u.heap.size + 1, 0, none⟩)]) rfl trivial (enters_of Try.func74 (by kernel_rfl) rfl)
    (encs := encP) (Kp := KeepP w.heap.size) (S := fun xs : List (Pc w2 w.heap.size ws ks) => xs.map (·.i) = List.range ws.length) (Sp := fun _ => True) (N := ws.length) (w0 := w2)
    (fun l J Jx W hW hJ hJx hY h0 => pieces1_kept 2 (by omega) l u.heap.size (u.heap.size + 1) w.heap.size w2 ws ks hlen HKS.out HM.out.w HM.out.fits.m _ (H2.out.below B2.out) bq (fun W => Boxed W bq 64 kv ∧ NumsIn W w.heap.size kv (ks.map Int.ofNat)) (fun A C h k => ⟨k.2 _ _ _ (by decide) h.1, h.2.below k.1⟩) (fun W i hi h => callsIn_wide.2 ((crash1_any i bq kv (ks.map Int.ofNat) W h.2 (by simpa using hi) h.1).mono (by rintro e W' ⟨rfl, rfl⟩; exact ⟨by rw [List.getElem_map]; rfl, rfl⟩))) J Jx W hJ hY (by have := hW.size; have := LW.out; omega) (hW.mono (by have := LW.out; omega)) ((hW.block _ hBW.lt).trans hBW) ((hW.block _ hBK.lt).trans hBK) ⟨((B2.out.trans (hW.mono (by have := LW.out; omega))).block _ hkb.lt).trans hkb, hkn.below (B2.out.trans (hW.mono (by have := LW.out; omega)))⟩ h0)
    KeepP.trans (fun W l o o' hl h ho _ => KeepP.putObj W l o o' (by have := LW.out; omega) h ho) (Below.refl _ _) (fun _ => rfl)
    (fun pre W => (SecsAt W q.heap.size (.slice A1 ss.length c1) (layAll ss (came pre)) ∧ W.heap[w1.heap.size]? = some (.cells #[.slice A1 ss.length c1, .slice none 0 0] 29 (0, 0)) ∧ W.heap[w.heap.size + 1]? = some (.cells #[.slice none 0 0, .slice none 0 0] 29 (0, 0))) ∧ Below w.heap.size w2 W)
    (fun _ _ _ => False)
    (OwnFrom.and (fun s W W' row h hg hr => ⟨h.1.turned hg (fun r e => (hr r e).2), heap_turned h.2.1 hg (fun r e => (hr r e).2), heap_turned h.2.2 hg (fun r e => (hr r e).2)⟩) (ownFrom_below (by have := LW.out; omega) (by have := LW.out; omega)))
    (fun _ _ _ _ _ hs _ _ => hs)
    ⟨⟨S2.out, O2.out, R2.out⟩, Below.refl _ _⟩
    (fun x => { tmps := #[.agg #[v1, .slice A2 ws.length c2], .func (.func 53) #[] #[.pointer (some ⟨bq, 0, none⟩)], .pointer (some ⟨w.heap.size, 0, none⟩), undef, .pointer (some ⟨w.heap.size + 1, 0, none⟩), .pointer (some ⟨w1.heap.size, 0, none⟩), .int .i64 (ws[x.i]'x.hi).1, x.v, .pointer (some ⟨w.heap.size, 0, none⟩), v1, .slice A1 ss.length c1, .agg #[.slice A1 ss.length c1, .slice none 0 0], .pointer (some ⟨w.heap.size, 1, none⟩), .slice A2 ws.length c2, .func (.func 53) #[] #[.pointer (some ⟨bq, 0, none⟩)], .func (.func 74) #[] #[.pointer (some ⟨u.heap.size, 0, none⟩), .pointer (some ⟨u.heap.size + 1, 0, none⟩)], .int .i64 (ws[x.i]'x.hi).1, x.v, undef, undef, undef, undef, undef, undef, undef, undef], defers := [] }) ?assign ?body ?done ?stop
  case assign =>
    intro l x W K hK
    dsimp only [encP]
    gi_wp2
    exact hK
  case body =>
    rintro l pre x W ⟨⟨hs, ho, hr⟩, hB⟩ hlt
    obtain ⟨hok0, hok1, hok2⟩ := HM.out.w _ (List.getElem_mem x.hi)
    obtain ⟨a, ha⟩ : ∃ a : Nat, (ws[x.i]'x.hi).1 = (a : Int) := ⟨(ws[x.i]'x.hi).1.toNat, by omega⟩
    have hsn : ss.length = 32 := HM.out.n
    have hLl : (layAll ss (came pre)).length = ss.length := layAll_length _ _
    have haT : a < (layAll ss (came pre)).length := by omega
    have h128 : (layAll ss (came pre))[a].length = 128 := layAll_sizes HM.out.s (came_le HM.out.w pre) _ (List.getElem_mem haT)
    obtain ⟨b, g, cap, cur, rfl, hcell, hgc, hlo, hrow, hset⟩ := hs.at haT (by omega)
    have hpl : ((ws[x.i]'x.hi).2.take (ks.getD x.i 0)).length ≤ (layAll ss (came pre))[a].length := by rw [List.length_take]; omega
    have hx : Txt W w.heap.size x.v ((ws[x.i]'x.hi).2.take (ks.getD x.i 0)) := x.ht.below hB
    have hsnoc : layAll ss (came (pre ++ [x])) = (layAll ss (came pre)).set a (lay (layAll ss (came pre))[a] ((ws[x.i]'x.hi).2.take (ks.getD x.i 0))) := by
      rw [came_snoc, layAll_snoc, modify_set _ _ _ (by show (ws[x.i]'x.hi).1.toNat < _; omega)]
      simp only [ha, Int.toNat_natCast]
    have hlay := CallsIn.inRound l (F := Fence.wide) (n := 0) (callsIn_wide.2 (lay_any g cap q.heap.size (layAll ss (came pre))[a] ((ws[x.i]'x.hi).2.take (ks.getD x.i 0)) x.v W hrow hx hpl))
    have hlaylen := lay_length hpl
    obtain ⟨c0, c1'⟩ := cell2_of ho
    have HSET := Lib.hid hset
    have HSN := Lib.hid hsnoc
    have HLL := Lib.hid hlaylen
    have HG := Lib.hid hgc
    have HO := Lib.hid ho
    have HR := Lib.hid hr
    have HLO := Lib.hid hlo
    have HLAY := Lib.hid hlay
    have ha0 : (a : Int) < ss.length := by omega
    rw [ha]
    have H128 := Lib.hid h128
    clear hs ho hr hrow hset hpl hx hsnoc hlay hlaylen hgc hLl hlo h128
    gi_wp2_with (refine ⟨trivial, ?_⟩; refine HLAY.out.mono ?_; rintro e W' ⟨⟨v, rfl⟩, hrow', hgr⟩)
    have hw2 : Below w.heap.size W W' := (Below.refl _ _).grown hgr (Nat.le_trans (by have := LW.out; omega) hB.size) (fun k hk => by cases hk; have := HLO.out; have := LW.out; omega)
    refine ⟨KeepsOthers.of_grownBy hgr (fun j o e ho => by cases e; rw [HG.out] at ho; cases ho; rfl), ⟨hw2, fun bn t v ht hb => heap_other ht hb HG.out hgr⟩, ⟨?_, heap_other (by decide) HO.out HG.out hgr, heap_other (by decide) HR.out HG.out hgr⟩, hB.trans hw2⟩
    rw [HSN.out]
    exact HSET.out W' _ HLL.out hrow' hgr
  case done =>
    rintro D xs W hD hS ⟨⟨hs, ho, hr⟩, hB⟩ hK
    rw [came_all hlen hS] at hs
    obtain ⟨o0, o1⟩ := cell2_of ho
    obtain ⟨r0, r1⟩ := cell2_of hr
    have f0 := frozen2_of hr 0
    have f1 := frozen2_of hr 1
    have HS := Lib.hid hs
    have HR := Lib.hid hr
    clear hs ho hr
    gi_wp2_with fail
    have hgr := grown_set2 W (w.heap.size + 1) (.slice A1 ss.length c1) (.slice none 0 0)
    have hh2 := heap_set2 HR.out (.slice A1 ss.length c1) (.slice none 0 0)
    have hs2 := secs_grown HS.out hgr LW.out.1
    have hK2 := (hgr.block D (heap_lt hK) (fun e => by
      obtain rfl : D = w.heap.size + 1 := by simpa using e
      rw [HR.out] at hK; cases hK)).trans hK
    generalize (W.setCell ⟨w.heap.size + 1, 0, none⟩ (.slice A1 ss.length c1)).setCell ⟨w.heap.size + 1, 1, none⟩ (.slice none 0 0) = W2 at hgr hh2 hs2 hK2 ⊢
    have hB2 : Below w.heap.size W W2 := (Below.refl _ _).grown hgr (Nat.le_trans B2.out.size hB.size) (fun k hk => by cases hk; omega)
    refine ⟨by simp, .inl ⟨_, _, rfl, run_takeDeferred hK2, ?_⟩⟩
    have hturn : ∀ r, some D = some r → ∃ o : Obj, W2.heap[r]? = some o ∧ o.isCells = false := fun r e => by cases e; exact ⟨_, hK2, rfl⟩
    have hp := heap_turned hh2 (grownBy_putObj' W2 D (.deferred none)) hturn
    refine ⟨_, results_cell_2 rfl _ _ (w.heap.size + 1) rfl hp Try.underlying29 infoDisk2, _, rfl, (hs2.turned (grownBy_putObj' W2 D (.deferred none)) hturn).mono (by have := LW.out; omega), ?_⟩
    exact B2.out.trans ((hB.trans hB2).trans ((Below.refl _ _).grown (grownBy_putObj' W2 D (.deferred none)) (by have := (Nat.le_trans B2.out.size (hB.trans hB2).size); exact this) (fun k hk => by cases hk; have := LW.out; omega)))
  case stop =>
    rintro D c pre W _ _ h _
    exact h.elim
end Go.Proofs.Ytdjoflhcagfmiaa
