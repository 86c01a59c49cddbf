/-
  The iterator over the pieces of the writes that wait, where a list tells how much is kept of each.
  Conditions: as for the one that keeps all.
-/
import Derived.Test.YtdjoflhcagfmiaaDevPieces
set_option linter.unusedVariables false
set_option linter.unusedSimpArgs false
set_option maxRecDepth 100000
namespace Go.Proofs.Ytdjoflhcagfmiaa
open Go.RowKit Go.Shelf

attribute [local go_sem] Oper.semAt_some

set_option maxRecDepth 100000 in
set_option maxHeartbeats 2000000 in
theorem pieces1_kept (n : Nat) (hn : 1 ≤ n) (l bw bk base : Nat) (w0 : World) (ws : List Wr) (ks : List Nat) (hlen : ks.length = ws.length) (hk1 : ∀ k ∈ ks, k ≤ 128) (hw : ∀ w ∈ ws, okW w) (hm : ws.length ≤ 1000)
    (wv : Value) (hwv : WtsIn w0 base wv ws) (bq : Nat) (KB : World → Prop)
    (hKB : ∀ W W', KB W → KeepP base W W' → KB W')
    (hkept : ∀ (W : World) (i : Nat) (h : i < ks.length), KB W → CallsIn Fence.wide (n - 1) Try.prog 53 #[.int .i64 (i : Int), .pointer (some ⟨bq, 0, none⟩)] W fun e W' => e = .returned (.int .i64 (ks[i] : Nat)) ∧ W = W')
    (J Jx : List (Pc w0 base ws ks) → World → Prop)
    (W : World) (hJ : AbidesFrom W.heap.size J)
    (hY : ∀ pre x W, J pre W → pre.length < ws.length → YieldAt Fence.wide (n - 1) Try.prog l (encP x) W fun e W' =>
      (e = .returned (.bool true) ∧ J (pre ++ [x]) W' ∧ KeepP base W W') ∨ (e = .returned (.bool false) ∧ Jx (pre ++ [x]) W'))
    (hbase : base ≤ W.heap.size) (h0w : Below base w0 W) (hbw : Boxed W bw 27 wv) (hbk : Boxed W bk 91 (.func (.func 53) #[] #[.pointer (some ⟨bq, 0, none⟩)])) (hKB0 : KB W) (h0 : J [] W) :
    CallsIn Fence.wide n Try.prog 74 #[.func (.yield l) #[] #[], .pointer (some ⟨bw, 0, none⟩), .pointer (some ⟨bk, 0, none⟩)] W fun e W' => (∃ v, e = .returned v) ∧
      ((∃ xs, xs.map (·.i) = List.range ws.length ∧ J xs W') ∨ ∃ pre, True ∧ Jx pre W') := by
  have HW := Lib.hid hwv
  obtain ⟨A, cap, rfl, -, -, -, -⟩ := hwv
  have hcw := hbw.cell
  have hck := hbk.cell
  refine callsIn_of_wp Try.func74 rfl trivial ?_ rfl
  simp only [Try.ntmps74, List.size_toArray, List.length_cons, List.length_nil, Nat.reduceAdd, Nat.reduceSub, Array.replicate_succ, Array.replicate_zero, List.push_toArray, List.append_toArray, List.nil_append, List.cons_append]
  gi_wp2
  clear hcw hck
  gi_loopw [8] (fun s8 wr => ∃ (k : Nat) (pre : List (Pc w0 base ws ks)), k ≤ ws.length ∧ s8 = .int .i64 k ∧ pre.map (·.i) = List.range k ∧ J pre wr ∧ KeepP base W wr) (fun s8 _ => ws.length - (intOf s8).toNat)
  case atStart => exact ⟨0, [], Nat.zero_le _, rfl, rfl, h0, KeepP.refl _ _⟩
  case round =>
    obtain ⟨k, pre, hk, rfl, hpre, hJs, hkp⟩ := hrel
    by_cases hlt : k < ws.length
    · have hlt' : (k : Int) < ws.length := by omega
      obtain ⟨b, off, u, rfl, hbb, hc0, hc1, ht⟩ := HW.out.at hlt
      have hc0 := ((h0w.trans hkp.1).cell (p := ⟨b, _, none⟩) hbb).trans hc0
      have hc1 := ((h0w.trans hkp.1).cell (p := ⟨b, _, none⟩) hbb).trans hc1
      have HT := Lib.hid ht
      obtain ⟨A3, c3, rfl, -, -, -, -⟩ := ht
      have hok := hw _ (List.getElem_mem hlt)
      have hl : ws[k].2.length = 128 := hok.2.2
      gi_wp2
      have hq1 : (wr.alloc (.cells #[.int .i64 ws[k].1, .slice A3 128 c3] 52)).heap[wr.heap.size]? = some (.cells #[.int .i64 ws[k].1, .slice A3 128 c3] 52 (0, 0)) := heap_alloc_self _ _
      have hkq : KeepP base W (wr.alloc (.cells #[.int .i64 ws[k].1, .slice A3 128 c3] 52)).drew := (hkp.alloc (Nat.le_trans hbase hkp.1.size) _).drew
      have hJq : J pre (wr.alloc (.cells #[.int .i64 ws[k].1, .slice A3 128 c3] 52)).drew := abides_drew hJ (abides_alloc hJ _ hJs)
      generalize hqe : wr.alloc (.cells #[.int .i64 ws[k].1, .slice A3 128 c3] 52) = q at hq1 hkq hJq ⊢
      clear hqe
      obtain ⟨qc0, qc1⟩ := cell2_of hq1
      have qck := (hkq.2 _ _ _ (by decide) hbk).cell
      have hkl : k < ks.length := by omega
      have hkc := hkept q.drew k hkl (hKB _ _ hKB0 hkq)
      have hkk := hk1 ks[k] (List.getElem_mem hkl)
      have hkg : ks.getD k 0 = ks[k] := by rw [List.getD_eq_getElem?_getD, List.getElem?_eq_getElem hkl]; rfl
      have hcut : Txt w0 base (.slice A3 ks[k] c3) (ws[k].2.take (ks.getD k 0)) := by
        rw [hkg]; exact HT.out.cut (by rw [hl]; exact hkk)
      obtain ⟨xx, hx1, hx2⟩ : ∃ xx : Pc w0 base ws ks, xx.i = k ∧ encP xx = #[.int .i64 ws[k].1, .slice A3 ks[k] c3] := ⟨⟨k, .slice A3 ks[k] c3, hlt, hcut⟩, rfl, rfl⟩
      have hround := hY pre xx q.drew hJq (by rw [← List.length_map (f := (·.i)), hpre, List.length_range]; exact hlt)
      rw [hx2] at hround
      have hround' := YieldAt.mono (R' := fun e W' => ∃ c, e = .returned (.bool c) ∧ Went c (J (pre ++ [xx]) W' ∧ KeepP base q.drew W') (Jx (pre ++ [xx]) W')) hround (by
        rintro e W' (⟨rfl, h⟩ | ⟨rfl, h⟩)
        · exact ⟨true, rfl, .inl ⟨rfl, h⟩⟩
        · exact ⟨false, rfl, .inr ⟨rfl, h⟩⟩)
      clear hround hcut hkg hx2
      generalize ks[k] = kd at hkc hkk hround'
      obtain ⟨fn, tmps, assign, body, hy, hR⟩ := hround'
      have hkd0 : (0 : Int) ≤ kd := by omega
      have hkd1 : (kd : Int) ≤ c3 := by obtain ⟨A4, c4, e, h1, _⟩ := HT.out; cases e; omega
      have X1 := Lib.hid hx1
      have HR := Lib.hid hR
      have HKQ := Lib.hid hkq
      have HPRE := Lib.hid hpre
      have HKP := Lib.hid hkp
      clear hx1 hR hkq hJq hpre hkp hJs
      refine wpIn_mono (Q := Behind (fun c => { tmps := #[.func (.yield l) #[] #[], .pointer (some ⟨bw, 0, none⟩), .pointer (some ⟨bk, 0, none⟩), undef, .int .i64 k, .pointer (some ⟨wr.heap.size, 0, none⟩), .slice (some ⟨b, off, none⟩) ws.length cap, .int .i64 ws.length, .int .i64 k, .bool true, .int .i64 k, .pointer (some ⟨b, off + k * 2, none⟩), .agg #[.int .i64 ws[k].1, .slice A3 128 c3], .func (.yield l) #[] #[], .pointer (some ⟨wr.heap.size, 0, none⟩), .int .i64 ws[k].1, .pointer (some ⟨wr.heap.size, 1, none⟩), .slice A3 128 c3, .func (.func 53) #[] #[.pointer (some ⟨bq, 0, none⟩)], .int .i64 k, .int .i64 kd, .slice A3 kd c3, .bool c, .bool (!c), u24], defers := [] }) (fun c W' => Went c (J (pre ++ [xx]) W' ∧ KeepP base q.drew W') (Jx (pre ++ [xx]) W'))) ?_ ?_
      · gi_region_with (first | (refine ⟨trivial, ?_⟩; refine hkc.mono ?_; rintro e w' ⟨rfl, rfl⟩) | (refine HR.out.mono ?_; rintro e W' ⟨c, rfl, hwent⟩) | (refine ⟨fun _ h => (by cases h), ?_⟩; refine HR.out.mono ?_; rintro e W' ⟨c, rfl, hwent⟩))
        all_goals exact ⟨_, rfl, hwent⟩
      · rintro e a' W3 hb
        cases e with
        | normal =>
          obtain ⟨c, rfl, hwent⟩ := hb
          rcases hwent with ⟨rfl, hJ3, hk3⟩ | ⟨rfl, hJx3⟩
          · gi_wp2
            go_roundw
            case rel => exact ⟨k + 1, pre ++ [xx], by omega, by simp, by rw [List.map_append, HPRE.out, List.range_succ, List.map_cons, X1.out]; rfl, hJ3, HKQ.out.trans hk3⟩
            case measure => simp [intOf]; omega
          · gi_wp2
            refine bodyPost_ret (results_none rfl _ _ _) rfl ?_
            exact ⟨⟨_, rfl⟩, .inr ⟨_, trivial, hJx3⟩⟩
        | _ => exact hb.elim
    · obtain rfl : k = ws.length := by omega
      gi_wp2
      go_end0
      exact ⟨⟨_, rfl⟩, .inl ⟨pre, hpre, hJs⟩⟩

end Go.Proofs.Ytdjoflhcagfmiaa
