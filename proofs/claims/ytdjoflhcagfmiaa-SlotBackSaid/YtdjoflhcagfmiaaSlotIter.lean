/-
  The library's iterators: over the bytes of a slice from the last to the first, and over its pieces.
  Conditions: none.
-/
import Derived.Test.YtdjoflhcagfmiaaSlotMath
import Derived.Test.YtdjoflhcagfmiaaDevPieces
set_option linter.unusedVariables false
set_option linter.unusedSimpArgs false
set_option maxRecDepth 100000
namespace Go.Proofs.Ytdjoflhcagfmiaa
open Go.RowKit Go.Shelf

attribute [local go_sem] Oper.semAt_some

/-- What a round keeps: whatever lay below the base, and each box that holds a slice of bytes or an int. -/
def KeepB (base : Nat) (W W' : World) : Prop := Below base W W' ∧ ∀ bn t v, (t = 34 ∨ t = 3) → Boxed W bn t v → Boxed W' bn t v
theorem KeepB.refl (base : Nat) (W : World) : KeepB base W W := ⟨Below.refl _ _, fun _ _ _ _ h => h⟩
theorem KeepB.trans {base : Nat} {A B C : World} (h : KeepB base A B) (k : KeepB base B C) : KeepB base A C := ⟨h.1.trans k.1, fun bn t v ht hb => k.2 bn t v ht (h.2 bn t v ht hb)⟩
theorem KeepB.drew {base : Nat} {A W : World} (h : KeepB base A W) : KeepB base A W.drew := ⟨h.1.drew, fun bn t v ht k => h.2 bn t v ht k⟩
theorem KeepB.putObj {base : Nat} (W : World) (l : Nat) (o o' : Obj) (hl : base ≤ l) (h : W.heap[l]? = some o) (ho : o.isCells = false) : KeepB base W (W.putObj l o') :=
  ⟨(Below.refl base W).grown (grownBy_putObj' W l o') (by have := (Array.getElem?_eq_some_iff.1 h).1; omega) (fun k e => by cases e; exact hl), fun bn t v ht hb =>
    hb.kept (grownBy_putObj' W l o') (fun e => by have e' : bn = l := (by simpa using e); subst e'; rw [show W.heap[bn]? = _ from hb] at h; cases h; cases ho)⟩
theorem KeepB.of_below {base : Nat} {W W' : World} (h : Below W.heap.size W W') (hb : base ≤ W.heap.size) : KeepB base W W' := ⟨h.mono hb, fun bn t v _ k => (h.block bn k.lt).trans k⟩

/-- A byte that is handed out, behind its number. -/
def encK (x : Nat × UInt8) : Array Value := #[.int .i64 x.1, .int .u8 (x.2.toNat : Int)]

set_option maxHeartbeats 2000000 in
theorem back1_whole (n : Nat) (hn : 1 ≤ n) (l bw base : Nat) (w0 : World) (xs : Bs) (wv : Value) (hwv : Txt w0 base wv xs) (hm : xs.length ≤ 1000)
    (J Jx : List (Nat × UInt8) → World → Prop)
    (W : World) (hJ : AbidesFrom W.heap.size J)
    (hY : ∀ pre x W, J pre W → pre.length < xs.length → YieldAt Fence.wide (n - 1) Try.prog l (encK x) W fun e W' =>
      (e = .returned (.bool true) ∧ J (pre ++ [x]) W' ∧ KeepB base W W') ∨ (e = .returned (.bool false) ∧ Jx (pre ++ [x]) W'))
    (hbase : base ≤ W.heap.size) (h0w : Below base w0 W) (hbw : Boxed W bw 34 wv) (h0 : J [] W) :
    CallsIn Fence.wide n Try.prog 88 #[.func (.yield l) #[] #[], .pointer (some ⟨bw, 0, none⟩)] W fun e W' => (∃ v, e = .returned v) ∧
      ((∃ xs', xs'.map (·.2) = xs.reverse ∧ J xs' W') ∨ ∃ pre, True ∧ Jx pre W') := by
  have HW := Lib.hid hwv
  obtain ⟨A, cap, rfl, -, -, -, -⟩ := hwv
  have hcw := hbw.cell
  refine callsIn_of_wp Try.func88 rfl trivial ?_ rfl
  simp only [Try.ntmps88, List.size_toArray, List.length_cons, List.length_nil, Nat.reduceAdd, Nat.reduceSub, Array.replicate_succ, Array.replicate_zero, List.push_toArray, List.append_toArray, List.nil_append, List.cons_append]
  gi_wp2
  clear hcw
  gi_loopw [3] (fun s3 wr => ∃ (k : Nat) (pre : List (Nat × UInt8)), k ≤ xs.length ∧ s3 = .int .i64 ((k : Int) - 1) ∧ pre.map (·.2) = (xs.drop k).reverse ∧ J pre wr ∧ KeepB base W wr) (fun s3 _ => (intOf s3 + 1).toNat)
  case atStart => exact ⟨xs.length, [], Nat.le_refl _, rfl, by simp, h0, KeepB.refl _ _⟩
  case round =>
    obtain ⟨k, pre, hk, rfl, hpre, hJs, hkp⟩ := hrel
    cases k with
    | succ k =>
      have hlt : k < xs.length := by omega
      have hki : ((k + 1 : Nat) : Int) - 1 = k := by omega
      rw [hki]
      have hlt' : (k : Int) < xs.length := by omega
      have hge : (0 : Int) ≤ k := by omega
      have hcell := (hkp.2 _ _ _ (.inl rfl) hbw).cell
      have hc : ∃ b off, A = some ⟨b, off, none⟩ ∧ wr.cell? ⟨b, off + k, none⟩ = some (.int .u8 (xs[k].toNat : Int)) := by
        obtain ⟨A', c', e, h1, h2, h3, h4⟩ := HW.out
        cases e
        obtain ⟨b, off, rfl, hb, hc⟩ := h4 (by omega)
        exact ⟨b, off, rfl, ((h0w.trans hkp.1).cell (p := ⟨b, _, none⟩) hb).trans (hc k hlt)⟩
      obtain ⟨b, off, rfl, hc⟩ := hc
      have hround := hY pre (k, xs[k]) wr hJs (by rw [← List.length_map (f := (·.2)), hpre]; simp; omega)
      have hround' := YieldAt.mono (R' := fun e W' => ∃ c, e = .returned (.bool c) ∧ Went c (J (pre ++ [(k, xs[k])]) W' ∧ KeepB base wr W') (Jx (pre ++ [(k, xs[k])]) W')) hround (by
        rintro e W' (⟨rfl, h⟩ | ⟨rfl, h⟩)
        · exact ⟨true, rfl, .inl ⟨rfl, h⟩⟩
        · exact ⟨false, rfl, .inr ⟨rfl, h⟩⟩)
      clear hround
      have hnext : (pre ++ [(k, xs[k])]).map (·.2) = (xs.drop k).reverse := by
        rw [List.map_append, hpre, List.drop_eq_getElem_cons hlt, List.reverse_cons]; rfl
      obtain ⟨fn, tmps, assign, body, hy, hR⟩ := hround'
      simp only [encK] at hy
      have HR := Lib.hid hR
      have HKP := Lib.hid hkp
      have HN := Lib.hid hnext
      clear hR hkp hJs hpre hnext
      generalize xs[k] = x at *
      gi_wp2_with (refine HR.out.mono ?_; rintro e W' ⟨c, rfl, hwent⟩)
      · rcases hwent with ⟨rfl, _⟩ | ⟨rfl, hJx3⟩
        · rename_i h; cases h
        · refine bodyPost_ret (results_none rfl _ _ _) rfl ?_
          exact ⟨⟨_, rfl⟩, .inr ⟨_, trivial, hJx3⟩⟩
      · rcases hwent with ⟨rfl, hJ3, hk3⟩ | ⟨rfl, _⟩
        · exact ⟨⟨k, _, by omega, rfl, HN.out, hJ3, HKP.out.trans hk3⟩, by simp only [intOf]; omega⟩
        · rename_i h; cases h
    | zero =>
      gi_wp2
      go_end0
      exact ⟨⟨_, rfl⟩, .inl ⟨pre, by simpa using hpre, hJs⟩⟩

/-- A piece that is handed out: its number, and the slice. -/
structure Ch (w0 : World) (B : Nat) (xs : Bs) where
  i : Nat
  v : Value
  ht : Txt w0 B v (pieceB xs i)
def encC {w0 : World} {B : Nat} {xs : Bs} (x : Ch w0 B xs) : Array Value := #[x.v]
theorem Txt.mid3 {W : World} {B : Nat} {A : Option Addr} {c : Nat} {xs : Bs} (h : Txt W B (.slice A xs.length c) xs) {k m : Nat} (hm : 0 < m) (hk : k + m ≤ xs.length) :
    ∃ b off, A = some ⟨b, off, none⟩ ∧ Txt W B (.slice (some ⟨b, off + k, none⟩) m m) ((xs.drop k).take m) := by
  obtain ⟨A', c', e, h1, h2, hn, h3⟩ := h
  cases e
  obtain ⟨b, off, rfl, hb, hc⟩ := h3 (by omega)
  have hl : ((xs.drop k).take m).length = m := by rw [List.length_take, List.length_drop]; omega
  refine ⟨b, off, rfl, some ⟨b, off + k, none⟩, m, by rw [hl], by omega, by omega, fun e => (by cases e), fun _ => ⟨b, off + k, rfl, hb, fun j hj => ?_⟩⟩
  rw [Nat.add_assoc, hc (k + j) (by omega)]
  simp
theorem cut_round {L k : Nat} (h : 118 * k < L) : (L + 117) / 118 ≥ k + 1 := by omega

set_option maxHeartbeats 2000000 in
theorem chunk1_whole (n : Nat) (hn : 1 ≤ n) (l bw bn base : Nat) (w0 : World) (xs : Bs) (wv : Value) (hwv : Txt w0 base wv xs) (hm : xs.length ≤ 100000)
    (J Jx : List (Ch w0 base xs) → World → Prop)
    (W : World) (hJ : AbidesFrom W.heap.size J)
    (hY : ∀ pre x W, J pre W → pre.length < cntB xs → YieldAt Fence.wide (n - 1) Try.prog l (encC x) W fun e W' =>
      (e = .returned (.bool true) ∧ J (pre ++ [x]) W' ∧ KeepB base W W') ∨ (e = .returned (.bool false) ∧ Jx (pre ++ [x]) W'))
    (hbase : base ≤ W.heap.size) (h0w : Below base w0 W) (hbw : Boxed W bw 34 wv) (hbn : Boxed W bn 3 (.int .i64 118)) (h0 : J [] W) :
    CallsIn Fence.wide n Try.prog 87 #[.func (.yield l) #[] #[], .pointer (some ⟨bw, 0, none⟩), .pointer (some ⟨bn, 0, none⟩)] W fun e W' => (∃ v, e = .returned v) ∧
      ((∃ xs', xs'.map (·.i) = List.range (cntB xs) ∧ J xs' W') ∨ ∃ pre, True ∧ Jx pre W') := by
  have HW := Lib.hid hwv
  obtain ⟨A, cap, rfl, hcap, -, -, -⟩ := hwv
  refine callsIn_of_wp Try.func87 rfl trivial ?_ rfl
  simp only [Try.ntmps87, List.size_toArray, List.length_cons, List.length_nil, Nat.reduceAdd, Nat.reduceSub, Array.replicate_succ, Array.replicate_zero, List.push_toArray, List.append_toArray, List.nil_append, List.cons_append]
  gi_wp2
  gi_loopw [4] (fun s4 wr => ∃ (k : Nat) (pre : List (Ch w0 base xs)), k ≤ cntB xs ∧ s4 = .int .i64 ((118 * k : Nat) : Int) ∧ pre.map (·.i) = List.range k ∧ J pre wr ∧ KeepB base W wr) (fun s4 _ => xs.length + 118 - (intOf s4).toNat)
  case atStart => exact ⟨0, [], Nat.zero_le _, rfl, rfl, h0, KeepB.refl _ _⟩
  case round =>
    obtain ⟨k, pre, hk, rfl, hpre, hJs, hkp⟩ := hrel
    have hcell := (hkp.2 _ _ _ (.inl rfl) hbw).cell
    have hcelln := (hkp.2 _ _ _ (.inr rfl) hbn).cell
    by_cases hlt : 118 * k < xs.length
    · have hlt' : ((118 * k : Nat) : Int) < xs.length := by omega
      have hge : (0 : Int) ≤ ((118 * k : Nat) : Int) := by omega
      have hle : ((118 * k : Nat) : Int) ≤ xs.length := by omega
      obtain ⟨m, hmm⟩ : ∃ m, m = min 118 (xs.length - 118 * k) := ⟨_, rfl⟩
      have hm0 : 0 < m := by omega
      have hkm : 118 * k + m ≤ xs.length := by omega
      obtain ⟨b, off, rfl, hsub⟩ := HW.out.mid3 hm0 hkm
      have hpc : (xs.drop (118 * k)).take m = pieceB xs k := by
        rw [pieceB, List.take_eq_take_iff, List.length_drop, hmm]; omega
      generalize hK : 118 * k = K at *
      gi_wp2
      gi_region
      have hmin : (if ((xs.length - K : Nat) : Int) < 118 then ((xs.length - K : Nat) : Int) else 118) = m := by split <;> omega
      rw [hmin]
      have h00 := hY pre ⟨k, .slice (some ⟨b, off + K, none⟩) m m, by rw [← hpc]; exact hsub⟩ wr.drew (abides_drew hJ hJs) (by rw [← List.length_map (f := (·.i)), hpre, List.length_range, cntB]; omega)
      obtain ⟨pp, hpp, hround⟩ : ∃ pp : List (Ch w0 base xs), pp.map (·.i) = List.range (k + 1) ∧ YieldAt Fence.wide (n - 1) Try.prog l #[.slice (some ⟨b, off + K, none⟩) m m] wr.drew (fun e W' =>
        (e = .returned (.bool true) ∧ J pp W' ∧ KeepB base wr.drew W') ∨ (e = .returned (.bool false) ∧ Jx pp W')) := ⟨_, by rw [List.map_append, hpre, List.range_succ]; rfl, h00⟩
      have hround' := YieldAt.mono (R' := fun e W' => ∃ c, e = .returned (.bool c) ∧ Went c (J pp W' ∧ KeepB base wr.drew W') (Jx pp W')) hround (by
        rintro e W' (⟨rfl, h⟩ | ⟨rfl, h⟩)
        · exact ⟨true, rfl, .inl ⟨rfl, h⟩⟩
        · exact ⟨false, rfl, .inr ⟨rfl, h⟩⟩)
      obtain ⟨fn, tmps, assign, body, hy, hR⟩ := hround'
      have HR := Lib.hid hR
      have HKP := Lib.hid hkp.drew
      have HPP := Lib.hid hpp
      have HPC := Lib.hid hpc
      clear hR hkp hJs hpp hround h00 hmin hsub hpc
      have HMM := Lib.hid hmm
      have hKm : (K : Int) + m ≤ cap := by omega
      clear hmm
      gi_wp2_with fail
      refine HR.out.mono ?_
      rintro e W' ⟨c, rfl, hwent⟩
      rcases hwent with ⟨rfl, hJ3, hk3⟩ | ⟨rfl, hJx3⟩
      · have hcelln' := ((HKP.out.trans hk3).2 _ _ _ (.inr rfl) hbn).cell
        have HK3 := Lib.hid (HKP.out.trans hk3)
        clear hk3
        gi_wp2
        go_roundw
        case rel => exact ⟨k + 1, pp, by have := HMM.out; rw [cntB]; omega, by go_num, HPP.out, hJ3, HK3.out⟩
        case measure => simp [intOf]; omega
      · gi_wp2
        refine bodyPost_ret (results_none rfl _ _ _) rfl ?_
        exact ⟨⟨_, rfl⟩, .inr ⟨_, trivial, hJx3⟩⟩
    · have hlt' : ¬ ((118 * k : Nat) : Int) < xs.length := by omega
      have hkk : k = cntB xs := by rw [cntB] at hk ⊢; omega
      gi_wp2
      go_end0
      exact ⟨⟨_, rfl⟩, .inl ⟨pre, by rw [hpre, hkk], hJs⟩⟩
end Go.Proofs.Ytdjoflhcagfmiaa
