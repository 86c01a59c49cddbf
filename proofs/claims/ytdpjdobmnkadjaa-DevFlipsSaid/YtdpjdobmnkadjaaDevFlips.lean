/-
  The walk of DevFlips: a byte that is turned.
  Conditions: none.
-/
import Derived.Test.YtdpjdobmnkadjaaDevAlive
import Derived.Test.YtdpjdobmnkadjaaDevBox
import Derived.Test.YtdpjdobmnkadjaaDevHides
import Derived.Test.YtdpjdobmnkadjaaDevFlipsM
import Derived.Deep.CutRange
set_option linter.unusedVariables false
set_option linter.unusedSimpArgs false
namespace Go.Proofs.Ytdpjdobmnkadjaa
open Go.RowKit

theorem made_zeros (n : Nat) : (madeCells (Value.int IntKind.i64 0).cells (n * 1)).toList = (zeros n).map i64c := by
  rw [zeros, List.map_replicate]
  apply List.ext_getElem?
  intro j
  simp only [madeCells, Array.toList_map, Array.toList_range, List.getElem?_map, List.getElem?_replicate, Nat.mul_one]
  by_cases h : j < n
  · rw [List.getElem?_range h, if_pos h]
    simp [Value.cells, i64c, Nat.mod_one]
  · rw [List.getElem?_eq_none (by simp; omega), if_neg h]; rfl
theorem infoInt_ : (Try.prog.info? 3).map (fun i => (i.zero, i.size, i.bytes)) = some (some (.int .i64 0), 1, 8) := by kernel_rfl
theorem made_nums (w : World) (n : Nat) (hn : n ≤ 256) : ∃ o : Obj, (Instr.makeSlice 36 (.int .i64 (n : Int)) (.int .i64 (n : Int))).run Try.prog w = .ok (.slice (some ⟨w.heap.size, 0, none⟩) n n) (w.alloc o) ∧ NumsIn (w.alloc o) (w.alloc o).heap.size (.slice (some ⟨w.heap.size, 0, none⟩) n n) (zeros n) := by
  obtain ⟨i0, hi, hz0, hz1, hz2⟩ := info_parts infoInt_
  have h := run_make (P := Try.prog) w 36 3 i0 _ Try.underlying36 hi hz0 .i64 .i64 n n (by omega) (by omega) (by rw [hz2]; omega) (by omega)
  refine ⟨_, h, ?_⟩
  have ho : (w.alloc (.cells (madeCells (Value.int IntKind.i64 0).cells (n * i0.size)) 3)).ownsRow w.heap.size 3 1 (.slice (some ⟨w.heap.size, 0, none⟩) n n) (zeros n).length ((zeros n).map i64c) := by
    rw [zeros_length]
    refine ⟨by rw [List.length_map, zeros_length]; omega, .inr ⟨_, n, _, rfl, Nat.le_refl _, heap_alloc_self _ _, Nat.le_refl _, by unfold maxLen; omega, ?_, ?_⟩⟩
    · rw [size_madeCells, hz1]
    · rw [hz1, made_zeros]
      exact List.take_of_length_le (by rw [List.length_map, zeros_length]; omega)
  have h2 := nums_of_own ho (by rw [zeros_length]; unfold maxLen; omega)
  exact h2

theorem txt_byte {W : World} {B : Nat} {v : Value} {xs : Bs} (h : Txt W B v xs) {n : Nat} (hn : xs.length = n) {j : Nat} (hj : j < n) : ∃ b o c, v = .slice (some ⟨b, o, none⟩) n c ∧ b < B ∧ W.cell? ⟨b, o + j, none⟩ = some (.int .u8 ((xs[j]'(by omega)).toNat : Int)) := by
  subst hn
  obtain ⟨A, c, rfl, h1, h2, hn, h3⟩ := id h
  obtain ⟨b, o, rfl, hb, hc⟩ := h3 (by omega)
  exact ⟨b, o, c, rfl, hb, hc j hj⟩
theorem turned_byte {ss SX : List Bs} {m k : Nat} {x : UInt8} (hS : SX = turned ss m k x) (hm : m < ss.length) (hk : k < ss[m].length) {h1 : m < SX.length} {h2 : k < SX[m].length} : SX[m][k] = ss[m][k] ^^^ x := by
  subst hS
  have e : (turned ss m k x)[m] = ss[m].modify k fun b => b ^^^ x := Option.some.inj ((List.getElem?_eq_getElem h1).symm.trans (turned_at hm))
  have e2 : (turned ss m k x)[m][k]? = some (ss[m][k] ^^^ x) := by rw [e, List.getElem?_modify, List.getElem?_eq_getElem hk]; simp
  rw [List.getElem?_eq_getElem h2] at e2
  exact Option.some.inj e2
set_option maxRecDepth 100000 in
set_option maxHeartbeats 4000000 in
theorem walk_flips (d : Value) (ss : List Bs) (ws : List Wr) (n kk : Int) (x y : UInt8) (w : World) (h : DiskIn w w.heap.size d ss ws) :
    Calls Try.prog 11 #[d, .int .i64 n, .int .i64 kk, .int .u8 (x.toNat : Int), .int .u8 (y.toNat : Int)] w fun e w' => e = .returned (.bool true) ∧ Below w.heap.size w w' := by
  obtain ⟨v1, v2, rfl, h1, h2⟩ := id h
  have H := Lib.hid h
  have H1 := Lib.hid h1
  have H2 := Lib.hid h2
  obtain ⟨A1, c1, rfl, -, -, -, -⟩ := h1
  obtain ⟨A2, c2, rfl, -, -, -, -⟩ := h2
  clear h
  have hq0 := heap_alloc_self w (.cells #[.slice A1 ss.length c1, .slice A2 ws.length c2] 25)
  have hqb := below_new w (.cells #[.slice A1 ss.length c1, .slice A2 ws.length c2] 25)
  go_enter Try.func11, Try.ntmps11
  go_wp2_with fail
  generalize w.alloc (.cells #[.slice A1 ss.length c1, .slice A2 ws.length c2] 25) = q at hq0 hqb ⊢
  generalize hp0 : w.heap.size = p0 at hq0 ⊢
  refine (alive_true q).mono ?_
  rintro e w1 ⟨rfl, b1⟩
  have B1 := Lib.hid (hqb.trans (b1.mono hqb.size))
  have C1 := Lib.hid ((b1.block _ (heap_lt hq0)).trans hq0)
  obtain ⟨k0, k1⟩ := cell2_of C1.out
  clear hq0 hqb b1
  go_wp2_with fail
  refine (great_any _ ss ws w1 ((H.out.below B1.out).more B1.out.size)).mono ?_
  rintro e w2 ⟨⟨gr, rfl⟩, b2⟩
  have B2 := Lib.hid (B1.out.trans (b2.mono B1.out.size))
  have C2 := Lib.hid ((b2.block _ (heap_lt C1.out)).trans C1.out)
  clear b2 k0 k1 B1 C1
  obtain ⟨k0, k1⟩ := cell2_of C2.out
  cases gr with
  | true =>
    go_wp2_with fail
    go_ret
    exact ⟨rfl, hp0 ▸ B2.out⟩
  | false =>
    go_wp2_with fail
    refine (spoil_any _ ss ws n kk x w2 ((H.out.below B2.out).more B2.out.size)).mono ?_
    rintro e w3 ⟨d3, rfl, hd3, b3⟩
    by_cases hE : spoilE ss ws n kk = 0
    · rw [spoilS, spoilW, if_pos hE, if_pos hE] at hd3
      rw [hE]
      obtain ⟨hm0, ⟨hn0, hn1⟩, hk0, hk1⟩ := spoilE_zero hE
      obtain ⟨m, rfl⟩ : ∃ m : Nat, n = (m : Int) := ⟨n.toNat, by omega⟩
      obtain ⟨k, rfl⟩ : ∃ k : Nat, kk = (k : Int) := ⟨kk.toNat, by omega⟩
      rw [Int.toNat_natCast, Int.toNat_natCast] at hd3
      obtain ⟨SX, hSX⟩ : ∃ SX, SX = turned ss m k x := ⟨_, rfl⟩
      obtain ⟨SZ, hSZ⟩ : ∃ SZ, SZ = turned ss m k (x ^^^ y) := ⟨_, rfl⟩
      rw [← hSX] at hd3
      have HM := Lib.hid hm0
      have HMX := Lib.hid (show May SX ws by rw [hSX]; exact may_turned hm0 m k x)
      have HMZ := Lib.hid (show May SZ ws by rw [hSZ]; exact may_turned hm0 m k (x ^^^ y))
      have HN := Lib.hid (show (0 : Int) ≤ (m : Int) ∧ (m : Int) < 32 from ⟨hn0, hn1⟩)
      have HK := Lib.hid (show (0 : Int) ≤ (k : Int) ∧ (k : Int) < 128 from ⟨hk0, hk1⟩)
      have HSX := Lib.hid hSX
      have HSZ := Lib.hid hSZ
      have HSY := Lib.hid (show spoilS SX ws (m : Int) (k : Int) y = SZ by
        rw [spoilS, if_pos (spoilE_good HMX.out HN.out HK.out), Int.toNat_natCast, Int.toNat_natCast, hSX, turned_twice, hSZ])
      have HSZ' := Lib.hid (show spoilS ss ws (m : Int) (k : Int) (x ^^^ y) = SZ by
        rw [spoilS, if_pos hE, Int.toNat_natCast, Int.toNat_natCast, hSZ])
      obtain ⟨x1, x2, rfl, hs3, hw3⟩ := hd3
      obtain ⟨A3, k3, rfl⟩ := secs_slice hs3
      obtain ⟨A4, k4, rfl⟩ := wts_slice hw3
      have D3 := Lib.hid (show DiskAt w3 w2.heap.size (.agg #[.slice A3 SX.length k3, .slice A4 ws.length k4]) SX ws from ⟨_, _, rfl, hs3, hw3⟩)
      have B3 := Lib.hid (B2.out.trans (b3.mono B2.out.size))
      have C3 := Lib.hid ((b3.block _ (heap_lt C2.out)).trans C2.out)
      have hxor : bits .xor .u8 (x.toNat : Int) (y.toNat : Int) = (((x ^^^ y).toNat : Nat) : Int) := by rw [u8_xor_nat _ _ (UInt8.toNat_lt _) (UInt8.toNat_lt _), UInt8.toNat_xor]
      obtain ⟨nx, hnx⟩ : ∃ nx, nx = SX.length := ⟨_, rfl⟩
      obtain ⟨nz, hnz⟩ : ∃ nz, nz = SZ.length := ⟨_, rfl⟩
      rw [← hnx] at D3 ⊢
      have HNX := Lib.hid hnx
      have HNZ := Lib.hid hnz
      clear hs3 hw3 b3 k0 k1 C2 hE hm0 hn0 hn1 hk0 hk1 hSX hSZ hnx hnz
      go_wp2_with fail
      have hq := heap_alloc_self w3 (.cells #[.slice A3 nx k3, .slice A4 ws.length k4] 25)
      have qb := below_new w3 (.cells #[.slice A3 nx k3, .slice A4 ws.length k4] 25)
      generalize w3.alloc (.cells #[.slice A3 nx k3, .slice A4 ws.length k4] 25) = q3 at hq qb ⊢
      have B4 := Lib.hid (B3.out.trans (qb.mono B3.out.size))
      have D4 := Lib.hid (D3.out.below qb)
      have C4 := Lib.hid ((qb.block _ (heap_lt C3.out)).trans C3.out)
      clear qb B3 D3 C3
      generalize w3.heap.size = px at hq ⊢
      have X4 := Lib.hid hq
      clear hq
      refine (spoil_any _ SX ws (m : Int) (k : Int) y q3 D4.out.in_).mono ?_
      rintro e w5 ⟨d5, rfl, hd5, b5⟩
      rw [spoilE_good HMX.out HN.out HK.out]
      rw [HSY.out, spoilW, if_pos (spoilE_good HMX.out HN.out HK.out)] at hd5
      obtain ⟨x1, x2, rfl, hs5, hw5⟩ := hd5
      obtain ⟨A5, k5, rfl⟩ := secs_slice hs5
      obtain ⟨A6, k6, rfl⟩ := wts_slice hw5
      have Y5 := Lib.hid (show DiskAt w5 q3.heap.size (.agg #[.slice A5 SZ.length k5, .slice A6 ws.length k6]) SZ ws from ⟨_, _, rfl, hs5, hw5⟩)
      rw [← HNZ.out] at Y5 ⊢
      have B5 := Lib.hid (B4.out.trans (b5.mono B4.out.size))
      have D5 := Lib.hid (D4.out.below b5)
      have C5 := Lib.hid ((b5.block _ (heap_lt C4.out)).trans C4.out)
      have X5 := Lib.hid ((b5.block _ (heap_lt X4.out)).trans X4.out)
      clear hs5 hw5 b5 B4 D4 C4 X4
      have h0 : ∀ o, (w5.alloc o).cell? ⟨p0, 0, none⟩ = some (.slice A1 ss.length c1) := fun o => (cell2_of (((below_new w5 o).block _ (heap_lt C5.out)).trans C5.out)).1
      have h1 : ∀ o, (w5.alloc o).cell? ⟨p0, 1, none⟩ = some (.slice A2 ws.length c2) := fun o => (cell2_of (((below_new w5 o).block _ (heap_lt C5.out)).trans C5.out)).2
      go_wp2_with fail
      have hq := heap_alloc_self w5 (.cells #[.slice A5 nz k5, .slice A6 ws.length k6] 25)
      have qb := below_new w5 (.cells #[.slice A5 nz k5, .slice A6 ws.length k6] 25)
      generalize w5.alloc (.cells #[.slice A5 nz k5, .slice A6 ws.length k6] 25) = q5 at hq qb h0 h1 ⊢
      have B6 := Lib.hid (B5.out.trans (qb.mono B5.out.size))
      have D6 := Lib.hid (D5.out.below qb)
      have Y6 := Lib.hid (Y5.out.below qb)
      have C6 := Lib.hid ((qb.block _ (heap_lt C5.out)).trans C5.out)
      have X6 := Lib.hid ((qb.block _ (heap_lt X5.out)).trans X5.out)
      clear qb B5 D5 Y5 C5 X5 h0 h1
      generalize w5.heap.size = py at hq ⊢
      have P6 := Lib.hid hq
      clear hq
      refine (spoil_any _ ss ws (m : Int) (k : Int) (x ^^^ y) q5 ((H.out.below (hp0 ▸ B6.out)).more (hp0 ▸ B6.out).size)).mono ?_
      rintro e w7 ⟨d7, rfl, hd7, b7⟩
      rw [spoilE_good HM.out HN.out HK.out]
      rw [HSZ'.out, spoilW, if_pos (spoilE_good HM.out HN.out HK.out)] at hd7
      obtain ⟨x1, x2, rfl, hs7, hw7⟩ := hd7
      obtain ⟨A7, k7, rfl⟩ := secs_slice hs7
      obtain ⟨A8, k8, rfl⟩ := wts_slice hw7
      have Z7 := Lib.hid (show DiskAt w7 q5.heap.size (.agg #[.slice A7 SZ.length k7, .slice A8 ws.length k8]) SZ ws from ⟨_, _, rfl, hs7, hw7⟩)
      rw [← HNZ.out] at Z7 ⊢
      have B7 := Lib.hid (B6.out.trans (b7.mono B6.out.size))
      have D7 := Lib.hid (D6.out.below b7)
      have Y7 := Lib.hid (Y6.out.below b7)
      have C7 := Lib.hid ((b7.block _ (heap_lt C6.out)).trans C6.out)
      have X7 := Lib.hid ((b7.block _ (heap_lt X6.out)).trans X6.out)
      have P7 := Lib.hid ((b7.block _ (heap_lt P6.out)).trans P6.out)
      clear hs7 hw7 b7 B6 D6 Y6 C6 X6 P6
      have h0 : ∀ o, (w7.alloc o).cell? ⟨p0, 0, none⟩ = some (.slice A1 ss.length c1) := fun o => (cell2_of (((below_new w7 o).block _ (heap_lt C7.out)).trans C7.out)).1
      have h1 : ∀ o, (w7.alloc o).cell? ⟨p0, 1, none⟩ = some (.slice A2 ws.length c2) := fun o => (cell2_of (((below_new w7 o).block _ (heap_lt C7.out)).trans C7.out)).2
      go_wp2_with fail
      have hq := heap_alloc_self w7 (.cells #[.slice A7 nz k7, .slice A8 ws.length k8] 25)
      have qb := below_new w7 (.cells #[.slice A7 nz k7, .slice A8 ws.length k8] 25)
      generalize w7.alloc (.cells #[.slice A7 nz k7, .slice A8 ws.length k8] 25) = q7 at hq qb h0 h1 ⊢
      have B8 := Lib.hid (B7.out.trans (qb.mono B7.out.size))
      have D8 := Lib.hid (D7.out.below qb)
      have Y8 := Lib.hid (Y7.out.below qb)
      have Z8 := Lib.hid (Z7.out.below qb)
      have C8 := Lib.hid ((qb.block _ (heap_lt C7.out)).trans C7.out)
      have X8 := Lib.hid ((qb.block _ (heap_lt X7.out)).trans X7.out)
      have P8 := Lib.hid ((qb.block _ (heap_lt P7.out)).trans P7.out)
      clear qb B7 D7 Y7 Z7 C7 X7 P7 h0 h1
      generalize w7.heap.size = pz at hq ⊢
      have R8 := Lib.hid hq
      clear hq
      refine (read_any _ ss ws (m : Int) q7 ((H.out.below (hp0 ▸ B8.out)).more (hp0 ▸ B8.out).size)).mono ?_
      rintro e w8 ⟨y8, rfl, ho8, b8⟩
      rw [atE_good HM.out HN.out]
      obtain ⟨RO, hRO⟩ : ∃ RO, RO = readS ss ws (m : Int) := ⟨_, rfl⟩
      have HRO := Lib.hid hRO
      rw [← hRO] at ho8
      have hlo : RO.length = 128 := by rw [hRO]; exact readS_length HM.out (by have := HN.out; omega)
      rw [hlo] at ho8
      obtain ⟨AO, cO, rfl⟩ := own_slice_ ho8
      have hto : Txt w8 w8.heap.size (.slice AO 128 cO) RO := Txt.own (by rw [hlo]; unfold maxLen; omega) (base := q7.heap.size) (e := 5) (by rw [hlo]; exact ho8)
      have B9 := Lib.hid (B8.out.trans (b8.mono B8.out.size))
      have D9 := Lib.hid (D8.out.below b8)
      have Y9 := Lib.hid (Y8.out.below b8)
      have Z9 := Lib.hid (Z8.out.below b8)
      have C9 := Lib.hid ((b8.block _ (heap_lt C8.out)).trans C8.out)
      have X9 := Lib.hid ((b8.block _ (heap_lt X8.out)).trans X8.out)
      have P9 := Lib.hid ((b8.block _ (heap_lt P8.out)).trans P8.out)
      have R9 := Lib.hid ((b8.block _ (heap_lt R8.out)).trans R8.out)
      have TO := Lib.hid hto
      clear b8 ho8 hto hlo hRO B8 D8 Y8 Z8 C8 X8 P8 R8
      obtain ⟨k0, k1⟩ := cell2_of X9.out
      go_wp2_with fail
      refine (read_any _ SX ws (m : Int) w8 D9.out.in_).mono ?_
      rintro e w9 ⟨y9, rfl, ho9, b9⟩
      rw [atE_good HMX.out HN.out]
      obtain ⟨RS, hRS⟩ : ∃ RS, RS = readS SX ws (m : Int) := ⟨_, rfl⟩
      have HRS := Lib.hid hRS
      rw [← hRS] at ho9
      have hlo : RS.length = 128 := by rw [hRS]; exact readS_length HMX.out (by have := HN.out; omega)
      rw [hlo] at ho9
      obtain ⟨AS, cS, rfl⟩ := own_slice_ ho9
      have hts : Txt w9 w9.heap.size (.slice AS 128 cS) RS := Txt.own (by rw [hlo]; unfold maxLen; omega) (base := w8.heap.size) (e := 5) (by rw [hlo]; exact ho9)
      have B10 := Lib.hid (B9.out.trans (b9.mono B9.out.size))
      have D10 := Lib.hid (D9.out.below b9)
      have Y10 := Lib.hid (Y9.out.below b9)
      have Z10 := Lib.hid (Z9.out.below b9)
      have hC9 := (b9.block _ (heap_lt C9.out)).trans C9.out
      have hX9 := (b9.block _ (heap_lt X9.out)).trans X9.out
      have hP9 := (b9.block _ (heap_lt P9.out)).trans P9.out
      have hR9 := (b9.block _ (heap_lt R9.out)).trans R9.out
      have hTO := (TO.out.below b9).more b9.size
      clear C9 X9 P9 R9 TO k0 k1
      have C9 := Lib.hid hC9
      have X9 := Lib.hid hX9
      have P9 := Lib.hid hP9
      have R9 := Lib.hid hR9
      have TO := Lib.hid hTO
      have TS := Lib.hid hts
      clear b9 ho9 hts hlo hRS B9 D9 Y9 Z9 hC9 hX9 hP9 hR9 hTO
      have DT : Hid (∀ v, Below w9.heap.size w9 v → DiskIn v v.heap.size (.agg #[.slice A3 nx k3, .slice A4 ws.length k4]) SX ws) := Lib.hid (fun v hv => (D10.out.below hv).in_)
      have HCZ := Lib.hid (crash_zeros HMX.out)
      go_wp2_with fail
      go_cut [22, 23] from 25 to 89 (fun s22 s23 wx => ∃ p, s22 = .pointer (some ⟨p, 0, none⟩) ∧ s23 = .int .i64 0 ∧ BoxD wx p w9.heap.size SX [] ∧ Below w9.heap.size w9 wx)
      case first =>
        have Q0 := Lib.hid (Below.refl w9.heap.size w9).drew
        refine wp_region_held_drew (S := fun v => Below w9.heap.size w9 v) (by kernel_rfl) Q0.out (fun hHeld => ?_)
        refine wpAnyH_take (i := 0) (v := ?_) rfl (by kernel_rfl) (by kernel_rfl) (by kernel_rfl) (fun _ _ _ h => h) (Or.inl ⟨by rfl, ?_⟩) hHeld ?_
        rotate_left
        · intro w' hSw; obtain ⟨c0, c1⟩ := cell2_of ((hSw.block _ (heap_lt X9.out)).trans X9.out); go_simp; try with_reducible rfl
        simp only [List.getElem_toArray, List.getElem_cons_succ, List.getElem_cons_zero, Act.put, List.setIfInBounds_toArray, List.set_cons_zero, List.set_cons_succ]
        refine wpAnyH_take (i := 1) (v := ?_) rfl (by kernel_rfl) (by kernel_rfl) (by kernel_rfl) (fun _ _ _ h => h) (Or.inl ⟨by rfl, ?_⟩) hHeld ?_
        rotate_left
        · intro w' hSw; go_simp; try with_reducible rfl
        simp only [List.getElem_toArray, List.getElem_cons_succ, List.getElem_cons_zero, Act.put, List.setIfInBounds_toArray, List.set_cons_zero, List.set_cons_succ]
        refine wpAnyH_take (i := 2) (v := ?_) rfl (by kernel_rfl) (by kernel_rfl) (by kernel_rfl) (fun _ _ _ h => h) (Or.inl ⟨by rfl, ?_⟩) hHeld ?_
        rotate_left
        · intro w' hSw; obtain ⟨c0, c1⟩ := cell2_of ((hSw.block _ (heap_lt C9.out)).trans C9.out); go_simp; try with_reducible rfl
        simp only [List.getElem_toArray, List.getElem_cons_succ, List.getElem_cons_zero, Act.put, List.setIfInBounds_toArray, List.set_cons_zero, List.set_cons_succ]
        refine wpAnyH_take (i := 3) (v := ?_) rfl (by kernel_rfl) (by kernel_rfl) (by kernel_rfl) (fun _ _ _ h => h) (Or.inl ⟨by rfl, ?_⟩) hHeld ?_
        rotate_left
        · intro w' hSw; go_simp; try with_reducible rfl
        simp only [List.getElem_toArray, List.getElem_cons_succ, List.getElem_cons_zero, Act.put, List.setIfInBounds_toArray, List.set_cons_zero, List.set_cons_succ]
        refine wpAnyH_ready (rs := [4, 9]) (by kernel_rfl) (by simp) ?_
        refine AllReadyH.cons rfl (fun K hK => ?_) (AllReadyH.cons rfl (fun K hK => ?_) AllReadyH.nil)
        · obtain ⟨oM, hmk, hnm⟩ := made_nums w9.drew ws.length HM.out.m
          have bO := below_new w9.drew oM
          obtain ⟨wO, hwO⟩ : ∃ wO, wO = w9.drew.alloc oM := ⟨_, rfl⟩
          rw [← hwO] at hmk hnm bO
          clear hwO
          go_simp
          have XO := Lib.hid hnm
          clear hmk hnm
          have BO := Lib.hid (Q0.out.trans (bO.mono Q0.out.size))
          clear bO
          try go_wp2_with fail
          refine hK.out _ _ ?_ (fun hHeld => ?_)
          · exact BO.out
          clear hK K
          try simp only [List.getElem_toArray, List.getElem_cons_succ, List.getElem_cons_zero, Act.put, List.setIfInBounds_toArray, List.set_cons_zero, List.set_cons_succ]
          refine wpAnyH_ready (rs := [5, 9]) (by kernel_rfl) (by simp) ?_
          refine AllReadyH.cons rfl (fun K hK => ?_) (AllReadyH.cons rfl (fun K hK => ?_) AllReadyH.nil)
          · go_simp
            refine (crash_any _ _ SX ws (zeros ws.length) wO (DT.out _ BO.out) XO.out).mono ?_
            rintro e wA ⟨dA, rfl, hdA, bA⟩
            rw [HCZ.out.1]
            rw [HCZ.out.2] at hdA
            obtain ⟨y1, y2, rfl, hsA, hwA⟩ := hdA
            obtain ⟨A10, c10, rfl⟩ := secs_slice hsA
            obtain ⟨A11, c11, rfl⟩ := wts_slice hwA
            have BA := Lib.hid (BO.out.trans (bA.mono BO.out.size))
            have LO0 := Lib.hid BO.out.size
            clear bA
            try go_wp2_with fail
            refine hK.out _ _ ?_ (fun hHeld => ?_)
            · exact BA.out
            clear hK K
            try simp only [List.getElem_toArray, List.getElem_cons_succ, List.getElem_cons_zero, Act.put, List.setIfInBounds_toArray, List.set_cons_zero, List.set_cons_succ]
            refine wpAnyH_take (i := 6) (v := ?_) rfl (by kernel_rfl) (by kernel_rfl) (by kernel_rfl) (fun _ _ _ h => h) (Or.inl ⟨by rfl, ?_⟩) hHeld ?_
            rotate_left
            · intro w' hSw; go_simp; try with_reducible rfl
            simp only [List.getElem_toArray, List.getElem_cons_succ, List.getElem_cons_zero, Act.put, List.setIfInBounds_toArray, List.set_cons_zero, List.set_cons_succ]
            refine wpAnyH_take (i := 7) (v := ?_) rfl (by kernel_rfl) (by kernel_rfl) (by kernel_rfl) (fun _ _ _ h => h) (Or.inl ⟨by rfl, ?_⟩) hHeld ?_
            rotate_left
            · intro w' hSw; go_simp; try with_reducible rfl
            simp only [List.getElem_toArray, List.getElem_cons_succ, List.getElem_cons_zero, Act.put, List.setIfInBounds_toArray, List.set_cons_zero, List.set_cons_succ]
            refine wpAnyH_take (i := 8) (v := ?_) rfl (by kernel_rfl) (by kernel_rfl) (by kernel_rfl) (fun _ _ _ h => h) (Or.inl ⟨by rfl, ?_⟩) hHeld ?_
            rotate_left
            · intro w' hSw; go_simp; try with_reducible rfl
            simp only [List.getElem_toArray, List.getElem_cons_succ, List.getElem_cons_zero, Act.put, List.setIfInBounds_toArray, List.set_cons_zero, List.set_cons_succ]
            refine wpAnyH_ready (rs := [9]) (by kernel_rfl) (by simp) ?_
            refine AllReadyH.cons rfl (fun K hK => ?_) AllReadyH.nil
            go_simp
            refine hK.out _ _ ?_ (fun hHeld => ?_)
            · exact BA.out.alloc BA.out.size _
            clear hK K
            try simp only [List.getElem_toArray, List.getElem_cons_succ, List.getElem_cons_zero, Act.put, List.setIfInBounds_toArray, List.set_cons_zero, List.set_cons_succ]
            refine wpAnyH_ready (rs := [10]) (by kernel_rfl) (by simp) ?_
            refine AllReadyH.cons rfl (fun K hK => ?_) AllReadyH.nil
            rw [if_pos (by rfl)]
            refine wp_store_2 25 _ _ rfl wA.heap.size rfl rfl (heap_alloc_self _ _) infoDisk2 rfl rfl ?_
            rw [World.setRow_alloc_new]
            refine hK.out _ _ ?_ (fun hHeld => ?_)
            · exact BA.out.alloc BA.out.size _
            clear hK K
            try simp only [List.getElem_toArray, List.getElem_cons_succ, List.getElem_cons_zero, Act.put, List.setIfInBounds_toArray, List.set_cons_zero, List.set_cons_succ]
            refine wpAnyH_take (i := 11) (v := ?_) rfl (by kernel_rfl) (by kernel_rfl) (by kernel_rfl) (fun _ _ _ h => h) (Or.inl ⟨by rfl, ?_⟩) hHeld ?_
            rotate_left
            · intro w' hSw; go_simp; try with_reducible rfl
            simp only [List.getElem_toArray, List.getElem_cons_succ, List.getElem_cons_zero, Act.put, List.setIfInBounds_toArray, List.set_cons_zero, List.set_cons_succ]
            refine wpAnyH_done (by kernel_rfl) ?_ _
            go_wp2_with fail
            go_meet
            exact ⟨wA.heap.size, rfl, rfl, ⟨_, _, heap_alloc_self _ _, (hsA.below (below_new _ _)).mono LO0.out, (hwA.below (below_new _ _)).mono LO0.out⟩, BA.out.alloc BA.out.size _⟩
          · go_simp
            have hz0 : Below w9.heap.size w9 (wO.alloc (.cells #[.slice none 0 0, .slice none 0 0] 25)) := BO.out.alloc BO.out.size _
            have hz1 : (wO.alloc (.cells #[.slice none 0 0, .slice none 0 0] 25)).heap[wO.heap.size]? = some (.cells #[.slice none 0 0, .slice none 0 0] 25 (0, 0)) := heap_alloc_self _ _
            have hz3 := below_new wO (.cells #[.slice none 0 0, .slice none 0 0] 25)
            refine hK.out _ _ ?_ (fun hHeld => ?_)
            · exact hz0
            clear hK K
            try simp only [List.getElem_toArray, List.getElem_cons_succ, List.getElem_cons_zero, Act.put, List.setIfInBounds_toArray, List.set_cons_zero, List.set_cons_succ]
            generalize wO.alloc (.cells #[.slice none 0 0, .slice none 0 0] 25) = wB at hz0 hz1 hz3 hHeld ⊢
            have HZ0 := Lib.hid hz0
            have HZ1 := Lib.hid hz1
            have HZ3 := Lib.hid hz3
            clear hz0 hz1 hz3
            refine wpAnyH_ready (rs := [5]) (by kernel_rfl) (by simp) ?_
            refine AllReadyH.cons rfl (fun K hK => ?_) AllReadyH.nil
            go_simp
            refine (crash_any _ _ SX ws (zeros ws.length) wB (DT.out _ HZ0.out) ((XO.out.below HZ3.out).more HZ3.out.size)).mono ?_
            rintro e wA ⟨dA, rfl, hdA, bA⟩
            rw [HCZ.out.1]
            rw [HCZ.out.2] at hdA
            obtain ⟨y1, y2, rfl, hsA, hwA⟩ := hdA
            obtain ⟨A10, c10, rfl⟩ := secs_slice hsA
            obtain ⟨A11, c11, rfl⟩ := wts_slice hwA
            have BA := Lib.hid (HZ0.out.trans (bA.mono HZ0.out.size))
            have HZ2 := Lib.hid ((bA.block _ (heap_lt HZ1.out)).trans HZ1.out)
            have LO0 := Lib.hid HZ0.out.size
            clear bA
            try go_wp2_with fail
            refine hK.out _ _ ?_ (fun hHeld => ?_)
            · exact BA.out
            clear hK K
            try simp only [List.getElem_toArray, List.getElem_cons_succ, List.getElem_cons_zero, Act.put, List.setIfInBounds_toArray, List.set_cons_zero, List.set_cons_succ]
            refine wpAnyH_take (i := 6) (v := ?_) rfl (by kernel_rfl) (by kernel_rfl) (by kernel_rfl) (fun _ _ _ h => h) (Or.inl ⟨by rfl, ?_⟩) hHeld ?_
            rotate_left
            · intro w' hSw; go_simp; try with_reducible rfl
            simp only [List.getElem_toArray, List.getElem_cons_succ, List.getElem_cons_zero, Act.put, List.setIfInBounds_toArray, List.set_cons_zero, List.set_cons_succ]
            refine wpAnyH_take (i := 7) (v := ?_) rfl (by kernel_rfl) (by kernel_rfl) (by kernel_rfl) (fun _ _ _ h => h) (Or.inl ⟨by rfl, ?_⟩) hHeld ?_
            rotate_left
            · intro w' hSw; go_simp; try with_reducible rfl
            simp only [List.getElem_toArray, List.getElem_cons_succ, List.getElem_cons_zero, Act.put, List.setIfInBounds_toArray, List.set_cons_zero, List.set_cons_succ]
            refine wpAnyH_take (i := 8) (v := ?_) rfl (by kernel_rfl) (by kernel_rfl) (by kernel_rfl) (fun _ _ _ h => h) (Or.inl ⟨by rfl, ?_⟩) hHeld ?_
            rotate_left
            · intro w' hSw; go_simp; try with_reducible rfl
            simp only [List.getElem_toArray, List.getElem_cons_succ, List.getElem_cons_zero, Act.put, List.setIfInBounds_toArray, List.set_cons_zero, List.set_cons_succ]
            refine wpAnyH_ready (rs := [10]) (by kernel_rfl) (by simp) ?_
            refine AllReadyH.cons rfl (fun K hK => ?_) AllReadyH.nil
            rw [if_pos (by rfl)]
            refine wp_store_2 25 _ _ rfl wO.heap.size rfl rfl HZ2.out infoDisk2 rfl rfl ?_
            refine hK.out _ _ ?_ (fun hHeld => ?_)
            · exact below_setRow BA.out BO.out.size _
            clear hK K
            try simp only [List.getElem_toArray, List.getElem_cons_succ, List.getElem_cons_zero, Act.put, List.setIfInBounds_toArray, List.set_cons_zero, List.set_cons_succ]
            refine wpAnyH_take (i := 11) (v := ?_) rfl (by kernel_rfl) (by kernel_rfl) (by kernel_rfl) (fun _ _ _ h => h) (Or.inl ⟨by rfl, ?_⟩) hHeld ?_
            rotate_left
            · intro w' hSw; go_simp; try with_reducible rfl
            simp only [List.getElem_toArray, List.getElem_cons_succ, List.getElem_cons_zero, Act.put, List.setIfInBounds_toArray, List.set_cons_zero, List.set_cons_succ]
            refine wpAnyH_done (by kernel_rfl) ?_ _
            go_wp2_with fail
            go_meet
            exact ⟨wO.heap.size, rfl, rfl, ⟨_, _, setRow_heap _ _ _ _ _ _ HZ2.out, (secs_setRow hsA (heap_lt HZ1.out) _).mono LO0.out, (wts_setRow hwA (heap_lt HZ1.out) _).mono LO0.out⟩, below_setRow BA.out BO.out.size _⟩
        · go_simp
          have hz0 : Below w9.heap.size w9 (w9.alloc (.cells #[.slice none 0 0, .slice none 0 0] 25)).drew := (below_new _ _).drew
          have hz1 : (w9.alloc (.cells #[.slice none 0 0, .slice none 0 0] 25)).drew.heap[w9.heap.size]? = some (.cells #[.slice none 0 0, .slice none 0 0] 25 (0, 0)) := heap_alloc_self _ _
          refine hK.out _ _ ?_ (fun hHeld => ?_)
          · exact hz0
          clear hK K
          try simp only [List.getElem_toArray, List.getElem_cons_succ, List.getElem_cons_zero, Act.put, List.setIfInBounds_toArray, List.set_cons_zero, List.set_cons_succ]
          generalize (w9.alloc (.cells #[.slice none 0 0, .slice none 0 0] 25)).drew = wB at hz0 hz1 hHeld ⊢
          have HZ0 := Lib.hid hz0
          have HZ1 := Lib.hid hz1
          clear hz0 hz1
          refine wpAnyH_ready (rs := [4]) (by kernel_rfl) (by simp) ?_
          refine AllReadyH.cons rfl (fun K hK => ?_) AllReadyH.nil
          obtain ⟨oM, hmk, hnm⟩ := made_nums wB ws.length HM.out.m
          have bO := below_new wB oM
          obtain ⟨wO, hwO⟩ : ∃ wO, wO = wB.alloc oM := ⟨_, rfl⟩
          rw [← hwO] at hmk hnm bO
          clear hwO
          go_simp
          have XO := Lib.hid hnm
          clear hmk hnm
          have BO := Lib.hid (HZ0.out.trans (bO.mono HZ0.out.size))
          have HZ4 := Lib.hid ((bO.block _ (heap_lt HZ1.out)).trans HZ1.out)
          clear bO
          try go_wp2_with fail
          refine hK.out _ _ ?_ (fun hHeld => ?_)
          · exact BO.out
          clear hK K
          try simp only [List.getElem_toArray, List.getElem_cons_succ, List.getElem_cons_zero, Act.put, List.setIfInBounds_toArray, List.set_cons_zero, List.set_cons_succ]
          refine wpAnyH_ready (rs := [5]) (by kernel_rfl) (by simp) ?_
          refine AllReadyH.cons rfl (fun K hK => ?_) AllReadyH.nil
          go_simp
          refine (crash_any _ _ SX ws (zeros ws.length) wO (DT.out _ BO.out) XO.out).mono ?_
          rintro e wA ⟨dA, rfl, hdA, bA⟩
          rw [HCZ.out.1]
          rw [HCZ.out.2] at hdA
          obtain ⟨y1, y2, rfl, hsA, hwA⟩ := hdA
          obtain ⟨A10, c10, rfl⟩ := secs_slice hsA
          obtain ⟨A11, c11, rfl⟩ := wts_slice hwA
          have BA := Lib.hid (BO.out.trans (bA.mono BO.out.size))
          have HZ2 := Lib.hid ((bA.block _ (heap_lt HZ4.out)).trans HZ4.out)
          have LO0 := Lib.hid BO.out.size
          clear bA
          try go_wp2_with fail
          refine hK.out _ _ ?_ (fun hHeld => ?_)
          · exact BA.out
          clear hK K
          try simp only [List.getElem_toArray, List.getElem_cons_succ, List.getElem_cons_zero, Act.put, List.setIfInBounds_toArray, List.set_cons_zero, List.set_cons_succ]
          refine wpAnyH_take (i := 6) (v := ?_) rfl (by kernel_rfl) (by kernel_rfl) (by kernel_rfl) (fun _ _ _ h => h) (Or.inl ⟨by rfl, ?_⟩) hHeld ?_
          rotate_left
          · intro w' hSw; go_simp; try with_reducible rfl
          simp only [List.getElem_toArray, List.getElem_cons_succ, List.getElem_cons_zero, Act.put, List.setIfInBounds_toArray, List.set_cons_zero, List.set_cons_succ]
          refine wpAnyH_take (i := 7) (v := ?_) rfl (by kernel_rfl) (by kernel_rfl) (by kernel_rfl) (fun _ _ _ h => h) (Or.inl ⟨by rfl, ?_⟩) hHeld ?_
          rotate_left
          · intro w' hSw; go_simp; try with_reducible rfl
          simp only [List.getElem_toArray, List.getElem_cons_succ, List.getElem_cons_zero, Act.put, List.setIfInBounds_toArray, List.set_cons_zero, List.set_cons_succ]
          refine wpAnyH_take (i := 8) (v := ?_) rfl (by kernel_rfl) (by kernel_rfl) (by kernel_rfl) (fun _ _ _ h => h) (Or.inl ⟨by rfl, ?_⟩) hHeld ?_
          rotate_left
          · intro w' hSw; go_simp; try with_reducible rfl
          simp only [List.getElem_toArray, List.getElem_cons_succ, List.getElem_cons_zero, Act.put, List.setIfInBounds_toArray, List.set_cons_zero, List.set_cons_succ]
          refine wpAnyH_ready (rs := [10]) (by kernel_rfl) (by simp) ?_
          refine AllReadyH.cons rfl (fun K hK => ?_) AllReadyH.nil
          rw [if_pos (by rfl)]
          refine wp_store_2 25 _ _ rfl w9.heap.size rfl rfl HZ2.out infoDisk2 rfl rfl ?_
          refine hK.out _ _ ?_ (fun hHeld => ?_)
          · exact below_setRow BA.out (Nat.le_refl _) _
          clear hK K
          try simp only [List.getElem_toArray, List.getElem_cons_succ, List.getElem_cons_zero, Act.put, List.setIfInBounds_toArray, List.set_cons_zero, List.set_cons_succ]
          refine wpAnyH_take (i := 11) (v := ?_) rfl (by kernel_rfl) (by kernel_rfl) (by kernel_rfl) (fun _ _ _ h => h) (Or.inl ⟨by rfl, ?_⟩) hHeld ?_
          rotate_left
          · intro w' hSw; go_simp; try with_reducible rfl
          simp only [List.getElem_toArray, List.getElem_cons_succ, List.getElem_cons_zero, Act.put, List.setIfInBounds_toArray, List.set_cons_zero, List.set_cons_succ]
          refine wpAnyH_done (by kernel_rfl) ?_ _
          go_wp2_with fail
          go_meet
          exact ⟨w9.heap.size, rfl, rfl, ⟨_, _, setRow_heap _ _ _ _ _ _ HZ2.out, (secs_setRow hsA (heap_lt HZ4.out) _).mono LO0.out, (wts_setRow hwA (heap_lt HZ4.out) _).mono LO0.out⟩, below_setRow BA.out (Nat.le_refl _) _⟩
      case rest =>
        obtain ⟨pc, rfl, rfl, hbd, hbl⟩ := hcut
        obtain ⟨z1, z2, hpc, hzs, hzw⟩ := hbd
        obtain ⟨A12, c12, rfl⟩ := secs_slice hzs
        rw [← HNX.out] at hpc
        have hmx : m < SX.length := by have := HMX.out.n; have := HN.out; omega
        have hms : m < ss.length := by have := HM.out.n; have := HN.out; omega
        obtain ⟨g1, o1, u1, hA, hg1, hc1, ht1⟩ := hzs.in_.at hmx
        subst hA
        obtain ⟨g2, o2, u2, hA, hg2, hc2, ht2⟩ := H1.out.at hms
        subst hA
        have hl1 : SX[m].length = 128 := HMX.out.s _ (List.getElem_mem _)
        have hl2 : ss[m].length = 128 := HM.out.s _ (List.getElem_mem _)
        obtain ⟨g3, o3, c3, rfl, hg3, hb3⟩ := txt_byte ht1 hl1 (j := k) (by have := HK.out; omega)
        obtain ⟨g4, o4, c4, rfl, hg4, hb4⟩ := txt_byte ht2 hl2 (j := k) (by have := HK.out; omega)
        obtain ⟨bx, hbx⟩ : ∃ bx : Nat, bx = (SX[m][k]'(by have := HK.out; omega)).toNat := ⟨_, rfl⟩
        obtain ⟨b0, hb0⟩ : ∃ b0 : UInt8, b0 = ss[m][k]'(by have := HK.out; omega) := ⟨_, rfl⟩
        have hbxx : bx = (b0 ^^^ x).toNat := by rw [hbx, hb0]; exact congrArg UInt8.toNat (turned_byte HSX.out hms (by have := HK.out; omega))
        rw [← hbx] at hb3
        rw [← hb0] at hb4
        have hxb : bits .xor .u8 (b0.toNat : Int) (x.toNat : Int) = (bx : Int) := by rw [hbxx, u8_xor_nat _ _ (UInt8.toNat_lt _) (UInt8.toNat_lt _), UInt8.toNat_xor]
        have B11 := Lib.hid (B10.out.trans (hbl.mono B10.out.size))
        have hBW : Below w.heap.size w wc := hp0 ▸ B11.out
        have HC10 := (hbl.block _ (heap_lt C9.out)).trans C9.out
        have HP10 := (hbl.block _ (heap_lt P9.out)).trans P9.out
        have HR10 := (hbl.block _ (heap_lt R9.out)).trans R9.out
        have hTO := (TO.out.below hbl).more hbl.size
        have hTS := (TS.out.below hbl).more hbl.size
        have hY := Y10.out.below hbl
        have hZ := Z10.out.below hbl
        have C10 := Lib.hid HC10
        have P10 := Lib.hid HP10
        have R10 := Lib.hid HR10
        have E10 := Lib.hid hpc
        have CS1 := Lib.hid hc1
        have CB1 := Lib.hid hb3
        have LS1 := Lib.hid hg1
        have LB1 := Lib.hid hg3
        have CS2 := Lib.hid ((hBW.cell (p := ⟨g2, o2 + m, none⟩) hg2).trans hc2)
        have CB2 := Lib.hid ((hBW.cell (p := ⟨g4, o4 + k, none⟩) hg4).trans hb4)
        have LS2 := Lib.hid (Nat.lt_of_lt_of_le hg2 hBW.size)
        have LB2 := Lib.hid (Nat.lt_of_lt_of_le hg4 hBW.size)
        have hmnx : (m : Int) < nx := by have := HNX.out; omega
        have hmns : (m : Int) < ss.length := by omega
        have hk128 : (k : Int) < 128 := HK.out.2
        have HSAME : Hid (∀ v, Below wc.heap.size wc v → Calls Try.prog 32 #[.agg #[.slice A5 nz k5, .slice A6 ws.length k6], .agg #[.slice A7 nz k7, .slice A8 ws.length k8]] v fun e w' => e = .returned (.bool true) ∧ Below v.heap.size v w') := Lib.hid (fun v hv => by
          have h1 := same_disk (.agg #[.slice A5 nz k5, .slice A6 ws.length k6]) (.agg #[.slice A7 nz k7, .slice A8 ws.length k8]) SZ SZ ws ws v (Nat.le_refl _) (Nat.le_refl _) (hY.below hv).in_ (hZ.below hv).in_
          rwa [decide_eq_true (p := SZ = SZ ∧ ws = ws) ⟨rfl, rfl⟩] at h1)
        have TO11 := Lib.hid hTO
        have TS11 := Lib.hid hTS
        clear hpc hzs hzw hbl hc1 ht1 hc2 ht2 hg1 hg2 hg3 hg4 hb3 hb4 hl1 hl2 hb0 hbxx hbx hBW HC10 HP10 HR10 hTO hTS hY hZ C9 P9 R9 X9 TO TS Y10 Z10 DT D10 B10 hms hmx hxor HCZ
        go_wp2_with fail
        go_cut [133] from 25 to 133 (fun s133 wx => s133 = .bool false ∧ Below wc.heap.size wc wx)
        case first =>
          have Q0 := Lib.hid (Below.refl wc.heap.size wc).drew
          refine wp_region_held_drew (S := fun v => Below wc.heap.size wc v) (by kernel_rfl) Q0.out (fun hHeld => ?_)
          refine wpAnyH_take (i := 0) (v := ?_) rfl (by kernel_rfl) (by kernel_rfl) (by kernel_rfl) (fun _ _ _ h => h) (Or.inl ⟨by rfl, ?_⟩) hHeld ?_
          rotate_left
          · intro w' hSw; go_simp; try with_reducible rfl
          simp only [List.getElem_toArray, List.getElem_cons_succ, List.getElem_cons_zero, Act.put, List.setIfInBounds_toArray, List.set_cons_zero, List.set_cons_succ]
          refine wpAnyH_take (i := 1) (v := ?_) rfl (by kernel_rfl) (by kernel_rfl) (by kernel_rfl) (fun _ _ _ h => h) (Or.inl ⟨by rfl, ?_⟩) hHeld ?_
          rotate_left
          · intro w' hSw; go_simp; try with_reducible rfl
          simp only [List.getElem_toArray, List.getElem_cons_succ, List.getElem_cons_zero, Act.put, List.setIfInBounds_toArray, List.set_cons_zero, List.set_cons_succ]
          refine wpAnyH_take (i := 2) (v := ?_) rfl (by kernel_rfl) (by kernel_rfl) (by kernel_rfl) (fun _ _ _ h => h) (Or.inl ⟨by rfl, ?_⟩) hHeld ?_
          rotate_left
          · intro w' hSw; go_simp; try with_reducible rfl
          simp only [List.getElem_toArray, List.getElem_cons_succ, List.getElem_cons_zero, Act.put, List.setIfInBounds_toArray, List.set_cons_zero, List.set_cons_succ]
          refine wpAnyH_take (i := 3) (v := ?_) rfl (by kernel_rfl) (by kernel_rfl) (by kernel_rfl) (fun _ _ _ h => h) (Or.inl ⟨by rfl, ?_⟩) hHeld ?_
          rotate_left
          · intro w' hSw; go_simp; try with_reducible rfl
          simp only [List.getElem_toArray, List.getElem_cons_succ, List.getElem_cons_zero, Act.put, List.setIfInBounds_toArray, List.set_cons_zero, List.set_cons_succ]
          refine wpAnyH_take (i := 4) (v := ?_) rfl (by kernel_rfl) (by kernel_rfl) (by kernel_rfl) (fun _ _ _ h => h) (Or.inl ⟨by rfl, ?_⟩) hHeld ?_
          rotate_left
          · intro w' hSw; go_simp; try with_reducible rfl
          simp only [List.getElem_toArray, List.getElem_cons_succ, List.getElem_cons_zero, Act.put, List.setIfInBounds_toArray, List.set_cons_zero, List.set_cons_succ]
          refine wpAnyH_take (i := 5) (v := ?_) rfl (by kernel_rfl) (by kernel_rfl) (by kernel_rfl) (fun _ _ _ h => h) (Or.inl ⟨by rfl, ?_⟩) hHeld ?_
          rotate_left
          · intro w' hSw; go_simp; try with_reducible rfl
          simp only [List.getElem_toArray, List.getElem_cons_succ, List.getElem_cons_zero, Act.put, List.setIfInBounds_toArray, List.set_cons_zero, List.set_cons_succ]
          refine wpAnyH_take (i := 6) (v := ?_) rfl (by kernel_rfl) (by kernel_rfl) (by kernel_rfl) (fun _ _ _ h => h) (Or.inl ⟨by rfl, ?_⟩) hHeld ?_
          rotate_left
          · intro w' hSw; go_simp; try with_reducible rfl
          simp only [List.getElem_toArray, List.getElem_cons_succ, List.getElem_cons_zero, Act.put, List.setIfInBounds_toArray, List.set_cons_zero, List.set_cons_succ]
          refine wpAnyH_take (i := 7) (v := ?_) rfl (by kernel_rfl) (by kernel_rfl) (by kernel_rfl) (fun _ _ _ h => h) (Or.inl ⟨by rfl, ?_⟩) hHeld ?_
          rotate_left
          · intro w' hSw; go_simp; try with_reducible rfl
          simp only [List.getElem_toArray, List.getElem_cons_succ, List.getElem_cons_zero, Act.put, List.setIfInBounds_toArray, List.set_cons_zero, List.set_cons_succ]
          refine wpAnyH_take (i := 8) (v := ?_) rfl (by kernel_rfl) (by kernel_rfl) (by kernel_rfl) (fun _ _ _ h => h) (Or.inl ⟨by rfl, ?_⟩) hHeld ?_
          rotate_left
          · intro w' hSw; go_simp; try with_reducible rfl
          simp only [List.getElem_toArray, List.getElem_cons_succ, List.getElem_cons_zero, Act.put, List.setIfInBounds_toArray, List.set_cons_zero, List.set_cons_succ]
          refine wpAnyH_take (i := 9) (v := ?_) rfl (by kernel_rfl) (by kernel_rfl) (by kernel_rfl) (fun _ _ _ h => h) (Or.inl ⟨by rfl, ?_⟩) hHeld ?_
          rotate_left
          · intro w' hSw; go_simp; try with_reducible rfl
          simp only [List.getElem_toArray, List.getElem_cons_succ, List.getElem_cons_zero, Act.put, List.setIfInBounds_toArray, List.set_cons_zero, List.set_cons_succ]
          refine wpAnyH_take (i := 10) (v := ?_) rfl (by kernel_rfl) (by kernel_rfl) (by kernel_rfl) (fun _ _ _ h => h) (Or.inl ⟨by rfl, ?_⟩) hHeld ?_
          rotate_left
          · intro w' hSw; go_simp; try with_reducible rfl
          simp only [List.getElem_toArray, List.getElem_cons_succ, List.getElem_cons_zero, Act.put, List.setIfInBounds_toArray, List.set_cons_zero, List.set_cons_succ]
          refine wpAnyH_take (i := 11) (v := ?_) rfl (by kernel_rfl) (by kernel_rfl) (by kernel_rfl) (fun _ _ _ h => h) (Or.inl ⟨by rfl, ?_⟩) hHeld ?_
          rotate_left
          · intro w' hSw; go_simp; try with_reducible rfl
          simp only [List.getElem_toArray, List.getElem_cons_succ, List.getElem_cons_zero, Act.put, List.setIfInBounds_toArray, List.set_cons_zero, List.set_cons_succ]
          refine wpAnyH_take (i := 12) (v := ?_) rfl (by kernel_rfl) (by kernel_rfl) (by kernel_rfl) (fun _ _ _ h => h) (Or.inl ⟨by rfl, ?_⟩) hHeld ?_
          rotate_left
          · intro w' hSw; go_simp; try with_reducible rfl
          simp only [List.getElem_toArray, List.getElem_cons_succ, List.getElem_cons_zero, Act.put, List.setIfInBounds_toArray, List.set_cons_zero, List.set_cons_succ]
          refine wpAnyH_take (i := 13) (v := ?_) rfl (by kernel_rfl) (by kernel_rfl) (by kernel_rfl) (fun _ _ _ h => h) (Or.inl ⟨by rfl, ?_⟩) hHeld ?_
          rotate_left
          · intro w' hSw; go_simp; try with_reducible rfl
          simp only [List.getElem_toArray, List.getElem_cons_succ, List.getElem_cons_zero, Act.put, List.setIfInBounds_toArray, List.set_cons_zero, List.set_cons_succ]
          refine wpAnyH_take (i := 14) (v := ?_) rfl (by kernel_rfl) (by kernel_rfl) (by kernel_rfl) (fun _ _ _ h => h) (Or.inl ⟨by rfl, ?_⟩) hHeld ?_
          rotate_left
          · intro w' hSw; go_simp; try with_reducible rfl
          simp only [List.getElem_toArray, List.getElem_cons_succ, List.getElem_cons_zero, Act.put, List.setIfInBounds_toArray, List.set_cons_zero, List.set_cons_succ]
          refine wpAnyH_take (i := 15) (v := ?_) rfl (by kernel_rfl) (by kernel_rfl) (by kernel_rfl) (fun _ _ _ h => h) (Or.inl ⟨by rfl, ?_⟩) hHeld ?_
          rotate_left
          · intro w' hSw; go_simp; try with_reducible rfl
          simp only [List.getElem_toArray, List.getElem_cons_succ, List.getElem_cons_zero, Act.put, List.setIfInBounds_toArray, List.set_cons_zero, List.set_cons_succ]
          refine wpAnyH_take (i := 16) (v := ?_) rfl (by kernel_rfl) (by kernel_rfl) (by kernel_rfl) (fun _ _ _ h => h) (Or.inl ⟨by rfl, ?_⟩) hHeld ?_
          rotate_left
          · intro w' hSw; go_simp; try with_reducible rfl
          simp only [List.getElem_toArray, List.getElem_cons_succ, List.getElem_cons_zero, Act.put, List.setIfInBounds_toArray, List.set_cons_zero, List.set_cons_succ]
          refine wpAnyH_take (i := 17) (v := ?_) rfl (by kernel_rfl) (by kernel_rfl) (by kernel_rfl) (fun _ _ _ h => h) (Or.inl ⟨by rfl, ?_⟩) hHeld ?_
          rotate_left
          · intro w' hSw; go_simp; try with_reducible rfl
          simp only [List.getElem_toArray, List.getElem_cons_succ, List.getElem_cons_zero, Act.put, List.setIfInBounds_toArray, List.set_cons_zero, List.set_cons_succ]
          refine wpAnyH_take (i := 18) (v := ?_) rfl (by kernel_rfl) (by kernel_rfl) (by kernel_rfl) (fun _ _ _ h => h) (Or.inl ⟨by rfl, ?_⟩) hHeld ?_
          rotate_left
          · intro w' hSw; go_simp; try with_reducible rfl
          simp only [List.getElem_toArray, List.getElem_cons_succ, List.getElem_cons_zero, Act.put, List.setIfInBounds_toArray, List.set_cons_zero, List.set_cons_succ]
          refine wpAnyH_take (i := 19) (v := ?_) rfl (by kernel_rfl) (by kernel_rfl) (by kernel_rfl) (fun _ _ _ h => h) (Or.inl ⟨by rfl, ?_⟩) hHeld ?_
          rotate_left
          · intro w' hSw; obtain ⟨c0, c1⟩ := cell2_of ((hSw.block _ (heap_lt P10.out)).trans P10.out); go_simp; try with_reducible rfl
          simp only [List.getElem_toArray, List.getElem_cons_succ, List.getElem_cons_zero, Act.put, List.setIfInBounds_toArray, List.set_cons_zero, List.set_cons_succ]
          refine wpAnyH_take (i := 20) (v := ?_) rfl (by kernel_rfl) (by kernel_rfl) (by kernel_rfl) (fun _ _ _ h => h) (Or.inl ⟨by rfl, ?_⟩) hHeld ?_
          rotate_left
          · intro w' hSw; obtain ⟨c0, c1⟩ := cell2_of ((hSw.block _ (heap_lt R10.out)).trans R10.out); go_simp; try with_reducible rfl
          simp only [List.getElem_toArray, List.getElem_cons_succ, List.getElem_cons_zero, Act.put, List.setIfInBounds_toArray, List.set_cons_zero, List.set_cons_succ]
          refine wpAnyH_ready (rs := [21]) (by kernel_rfl) (by simp) ?_
          refine AllReadyH.cons rfl (fun K hK => ?_) AllReadyH.nil
          go_simp
          refine (HSAME.out _ Q0.out).mono ?_
          rintro e wA ⟨rfl, bA⟩
          have BA := Lib.hid (Q0.out.trans (bA.mono Q0.out.size))
          clear bA
          try go_wp2_with fail
          refine hK.out _ _ ?_ (fun hHeld => ?_)
          · exact BA.out
          clear hK K
          try simp only [List.getElem_toArray, List.getElem_cons_succ, List.getElem_cons_zero, Act.put, List.setIfInBounds_toArray, List.set_cons_zero, List.set_cons_succ]
          refine wpAnyH_take (i := 22) (v := ?_) rfl (by kernel_rfl) (by kernel_rfl) (by kernel_rfl) (fun _ _ _ h => h) (Or.inl ⟨by rfl, ?_⟩) hHeld ?_
          rotate_left
          · intro w' hSw; go_simp; try with_reducible rfl
          simp only [List.getElem_toArray, List.getElem_cons_succ, List.getElem_cons_zero, Act.put, List.setIfInBounds_toArray, List.set_cons_zero, List.set_cons_succ]
          refine wpAnyH_take (i := 23) (v := ?_) rfl (by kernel_rfl) (by kernel_rfl) (by kernel_rfl) (fun _ _ _ h => h) (Or.inl ⟨by rfl, ?_⟩) hHeld ?_
          rotate_left
          · intro w' hSw; go_simp; try with_reducible rfl
          simp only [List.getElem_toArray, List.getElem_cons_succ, List.getElem_cons_zero, Act.put, List.setIfInBounds_toArray, List.set_cons_zero, List.set_cons_succ]
          refine wpAnyH_take (i := 24) (v := ?_) rfl (by kernel_rfl) (by kernel_rfl) (by kernel_rfl) (fun _ _ _ h => h) (Or.inl ⟨by rfl, ?_⟩) hHeld ?_
          rotate_left
          · intro w' hSw; go_simp; try with_reducible rfl
          simp only [List.getElem_toArray, List.getElem_cons_succ, List.getElem_cons_zero, Act.put, List.setIfInBounds_toArray, List.set_cons_zero, List.set_cons_succ]
          refine wpAnyH_take (i := 25) (v := ?_) rfl (by kernel_rfl) (by kernel_rfl) (by kernel_rfl) (fun _ _ _ h => h) (Or.inl ⟨by rfl, ?_⟩) hHeld ?_
          rotate_left
          · intro w' hSw; go_simp; try with_reducible rfl
          simp only [List.getElem_toArray, List.getElem_cons_succ, List.getElem_cons_zero, Act.put, List.setIfInBounds_toArray, List.set_cons_zero, List.set_cons_succ]
          refine wpAnyH_take (i := 26) (v := ?_) rfl (by kernel_rfl) (by kernel_rfl) (by kernel_rfl) (fun _ _ _ h => h) (Or.inl ⟨by rfl, ?_⟩) hHeld ?_
          rotate_left
          · intro w' hSw; obtain ⟨c0, c1⟩ := cell2_of ((hSw.block _ (heap_lt E10.out)).trans E10.out); go_simp; try with_reducible rfl
          simp only [List.getElem_toArray, List.getElem_cons_succ, List.getElem_cons_zero, Act.put, List.setIfInBounds_toArray, List.set_cons_zero, List.set_cons_succ]
          refine wpAnyH_take (i := 27) (v := ?_) rfl (by kernel_rfl) (by kernel_rfl) (by kernel_rfl) (fun _ _ _ h => h) (Or.inl ⟨by rfl, ?_⟩) hHeld ?_
          rotate_left
          · intro w' hSw; go_simp; try with_reducible rfl
          simp only [List.getElem_toArray, List.getElem_cons_succ, List.getElem_cons_zero, Act.put, List.setIfInBounds_toArray, List.set_cons_zero, List.set_cons_succ]
          refine wpAnyH_take (i := 28) (v := ?_) rfl (by kernel_rfl) (by kernel_rfl) (by kernel_rfl) (fun _ _ _ h => h) (Or.inl ⟨by rfl, ?_⟩) hHeld ?_
          rotate_left
          · intro w' hSw; go_simp; try with_reducible rfl
          simp only [List.getElem_toArray, List.getElem_cons_succ, List.getElem_cons_zero, Act.put, List.setIfInBounds_toArray, List.set_cons_zero, List.set_cons_succ]
          refine wpAnyH_take (i := 29) (v := ?_) rfl (by kernel_rfl) (by kernel_rfl) (by kernel_rfl) (fun _ _ _ h => h) (Or.inl ⟨by rfl, ?_⟩) hHeld ?_
          rotate_left
          · intro w' hSw; have cu := (hSw.cell (p := ⟨g1, o1 + m, none⟩) LS1.out).trans CS1.out; go_simp; try with_reducible rfl
          simp only [List.getElem_toArray, List.getElem_cons_succ, List.getElem_cons_zero, Act.put, List.setIfInBounds_toArray, List.set_cons_zero, List.set_cons_succ]
          refine wpAnyH_take (i := 30) (v := ?_) rfl (by kernel_rfl) (by kernel_rfl) (by kernel_rfl) (fun _ _ _ h => h) (Or.inl ⟨by rfl, ?_⟩) hHeld ?_
          rotate_left
          · intro w' hSw; go_simp; try with_reducible rfl
          simp only [List.getElem_toArray, List.getElem_cons_succ, List.getElem_cons_zero, Act.put, List.setIfInBounds_toArray, List.set_cons_zero, List.set_cons_succ]
          refine wpAnyH_take (i := 31) (v := ?_) rfl (by kernel_rfl) (by kernel_rfl) (by kernel_rfl) (fun _ _ _ h => h) (Or.inl ⟨by rfl, ?_⟩) hHeld ?_
          rotate_left
          · intro w' hSw; go_simp; try with_reducible rfl
          simp only [List.getElem_toArray, List.getElem_cons_succ, List.getElem_cons_zero, Act.put, List.setIfInBounds_toArray, List.set_cons_zero, List.set_cons_succ]
          refine wpAnyH_take (i := 32) (v := ?_) rfl (by kernel_rfl) (by kernel_rfl) (by kernel_rfl) (fun _ _ _ h => h) (Or.inl ⟨by rfl, ?_⟩) hHeld ?_
          rotate_left
          · intro w' hSw; have cu := (hSw.cell (p := ⟨g3, o3 + k, none⟩) LB1.out).trans CB1.out; go_simp; try with_reducible rfl
          simp only [List.getElem_toArray, List.getElem_cons_succ, List.getElem_cons_zero, Act.put, List.setIfInBounds_toArray, List.set_cons_zero, List.set_cons_succ]
          refine wpAnyH_take (i := 33) (v := ?_) rfl (by kernel_rfl) (by kernel_rfl) (by kernel_rfl) (fun _ _ _ h => h) (Or.inl ⟨by rfl, ?_⟩) hHeld ?_
          rotate_left
          · intro w' hSw; go_simp; try with_reducible rfl
          simp only [List.getElem_toArray, List.getElem_cons_succ, List.getElem_cons_zero, Act.put, List.setIfInBounds_toArray, List.set_cons_zero, List.set_cons_succ]
          refine wpAnyH_take (i := 34) (v := ?_) rfl (by kernel_rfl) (by kernel_rfl) (by kernel_rfl) (fun _ _ _ h => h) (Or.inl ⟨by rfl, ?_⟩) hHeld ?_
          rotate_left
          · intro w' hSw; obtain ⟨c0, c1⟩ := cell2_of ((hSw.block _ (heap_lt C10.out)).trans C10.out); go_simp; try with_reducible rfl
          simp only [List.getElem_toArray, List.getElem_cons_succ, List.getElem_cons_zero, Act.put, List.setIfInBounds_toArray, List.set_cons_zero, List.set_cons_succ]
          refine wpAnyH_take (i := 35) (v := ?_) rfl (by kernel_rfl) (by kernel_rfl) (by kernel_rfl) (fun _ _ _ h => h) (Or.inl ⟨by rfl, ?_⟩) hHeld ?_
          rotate_left
          · intro w' hSw; go_simp; try with_reducible rfl
          simp only [List.getElem_toArray, List.getElem_cons_succ, List.getElem_cons_zero, Act.put, List.setIfInBounds_toArray, List.set_cons_zero, List.set_cons_succ]
          refine wpAnyH_take (i := 36) (v := ?_) rfl (by kernel_rfl) (by kernel_rfl) (by kernel_rfl) (fun _ _ _ h => h) (Or.inl ⟨by rfl, ?_⟩) hHeld ?_
          rotate_left
          · intro w' hSw; go_simp; try with_reducible rfl
          simp only [List.getElem_toArray, List.getElem_cons_succ, List.getElem_cons_zero, Act.put, List.setIfInBounds_toArray, List.set_cons_zero, List.set_cons_succ]
          refine wpAnyH_take (i := 37) (v := ?_) rfl (by kernel_rfl) (by kernel_rfl) (by kernel_rfl) (fun _ _ _ h => h) (Or.inl ⟨by rfl, ?_⟩) hHeld ?_
          rotate_left
          · intro w' hSw; have cu := (hSw.cell (p := ⟨g2, o2 + m, none⟩) LS2.out).trans CS2.out; go_simp; try with_reducible rfl
          simp only [List.getElem_toArray, List.getElem_cons_succ, List.getElem_cons_zero, Act.put, List.setIfInBounds_toArray, List.set_cons_zero, List.set_cons_succ]
          refine wpAnyH_take (i := 38) (v := ?_) rfl (by kernel_rfl) (by kernel_rfl) (by kernel_rfl) (fun _ _ _ h => h) (Or.inl ⟨by rfl, ?_⟩) hHeld ?_
          rotate_left
          · intro w' hSw; go_simp; try with_reducible rfl
          simp only [List.getElem_toArray, List.getElem_cons_succ, List.getElem_cons_zero, Act.put, List.setIfInBounds_toArray, List.set_cons_zero, List.set_cons_succ]
          refine wpAnyH_take (i := 39) (v := ?_) rfl (by kernel_rfl) (by kernel_rfl) (by kernel_rfl) (fun _ _ _ h => h) (Or.inl ⟨by rfl, ?_⟩) hHeld ?_
          rotate_left
          · intro w' hSw; go_simp; try with_reducible rfl
          simp only [List.getElem_toArray, List.getElem_cons_succ, List.getElem_cons_zero, Act.put, List.setIfInBounds_toArray, List.set_cons_zero, List.set_cons_succ]
          refine wpAnyH_take (i := 40) (v := ?_) rfl (by kernel_rfl) (by kernel_rfl) (by kernel_rfl) (fun _ _ _ h => h) (Or.inl ⟨by rfl, ?_⟩) hHeld ?_
          rotate_left
          · intro w' hSw; have cu := (hSw.cell (p := ⟨g4, o4 + k, none⟩) LB2.out).trans CB2.out; go_simp; try with_reducible rfl
          simp only [List.getElem_toArray, List.getElem_cons_succ, List.getElem_cons_zero, Act.put, List.setIfInBounds_toArray, List.set_cons_zero, List.set_cons_succ]
          refine wpAnyH_take (i := 41) (v := ?_) rfl (by kernel_rfl) (by kernel_rfl) (by kernel_rfl) (fun _ _ _ h => h) (Or.inl ⟨by rfl, ?_⟩) hHeld ?_
          rotate_left
          · intro w' hSw; go_simp; try with_reducible rfl
          simp only [List.getElem_toArray, List.getElem_cons_succ, List.getElem_cons_zero, Act.put, List.setIfInBounds_toArray, List.set_cons_zero, List.set_cons_succ]
          refine wpAnyH_take (i := 42) (v := ?_) rfl (by kernel_rfl) (by kernel_rfl) (by kernel_rfl) (fun _ _ _ h => h) (Or.inl ⟨by rfl, ?_⟩) hHeld ?_
          rotate_left
          · intro w' hSw; go_simp; try with_reducible rfl
          simp only [List.getElem_toArray, List.getElem_cons_succ, List.getElem_cons_zero, Act.put, List.setIfInBounds_toArray, List.set_cons_zero, List.set_cons_succ]
          refine wpAnyH_take (i := 43) (v := ?_) rfl (by kernel_rfl) (by kernel_rfl) (by kernel_rfl) (fun _ _ _ h => h) (Or.inl ⟨by rfl, ?_⟩) hHeld ?_
          rotate_left
          · intro w' hSw; go_simp; try with_reducible rfl
          simp only [List.getElem_toArray, List.getElem_cons_succ, List.getElem_cons_zero, Act.put, List.setIfInBounds_toArray, List.set_cons_zero, List.set_cons_succ]
          refine wpAnyH_take (i := 44) (v := ?_) rfl (by kernel_rfl) (by kernel_rfl) (by kernel_rfl) (fun _ _ _ h => h) (Or.inl ⟨by rfl, ?_⟩) hHeld ?_
          rotate_left
          · intro w' hSw; go_simp; try with_reducible rfl
          simp only [List.getElem_toArray, List.getElem_cons_succ, List.getElem_cons_zero, Act.put, List.setIfInBounds_toArray, List.set_cons_zero, List.set_cons_succ]
          refine wpAnyH_done (by kernel_rfl) ?_ _
          go_wp2_with fail
          go_meet
          exact ⟨rfl, BA.out⟩
        case rest =>
          obtain ⟨rfl, hbl⟩ := hcut
          have B12 := Lib.hid (B11.out.trans (hbl.mono B11.out.size))
          have C12 := Lib.hid ((hbl.block _ (heap_lt C10.out)).trans C10.out)
          have hTO := (TO11.out.below hbl).more hbl.size
          have hTS := (TS11.out.below hbl).more hbl.size
          have TO12 := Lib.hid hTO
          have TS12 := Lib.hid hTS
          clear hbl hTO hTS B11 C10 P10 R10 E10 CS1 CB1 LS1 LB1 CS2 CB2 LS2 LB2 HSAME TO11 TS11 hxb
          obtain ⟨k0, k1⟩ := cell2_of C12.out
          have hwl : (ws.length : Int) ≤ 256 := by have := HM.out.m; omega
          go_wp2_with fail
          clear k0 k1
          go_loopw [24] (fun s24 wr => ∃ i : Nat, i ≤ ws.length ∧ s24 = .int .i64 i ∧ (∀ j, ∀ hj : j < ws.length, j < i → ws[j].1 ≠ (m : Int)) ∧ Below wc.heap.size wc wr) (fun s24 _ => ws.length - (intOf s24).toNat)
          case atStart => exact ⟨0, by omega, by go_num, fun j hj h0 => by omega, Below.refl _ _⟩
          case round =>
            obtain ⟨i, hi, rfl, hnone, hbl⟩ := hrel
            have NONE := Lib.hid hnone
            have B13 := Lib.hid (B12.out.trans (hbl.mono B12.out.size))
            have hBW : Below w.heap.size w wr := hp0 ▸ B13.out
            have hB13 := hbl
            have hsO := run_txt_string (TO12.out.below hbl)
            have hsS := run_txt_string (TS12.out.below hbl)
            obtain ⟨k0, k1⟩ := cell2_of ((hbl.block _ (heap_lt C12.out)).trans C12.out)
            have HB13 := Lib.hid hB13
            by_cases hlt : i < ws.length
            · have hlt' : (i : Int) < ws.length := by omega
              obtain ⟨g5, o5, u5, hA, hg5, hd0, hd1, -⟩ := H2.out.at hlt
              subst hA
              have hdi := (hBW.cell (p := ⟨g5, o5 + i * 2, none⟩) hg5).trans hd0
              by_cases hea : (ws[i]).1 = (m : Int)
              · have hRR : RS = RO := by rw [HRS.out, HRO.out, HSX.out]; exact read_waits HM.out (by have := HN.out; omega) ⟨i, hlt, hea⟩
                rw [hea] at hdi
                rw [hRR] at hsS
                clear hRR hea hd0 hd1 hg5 hnone hbl hBW hB13
                go_wp2_with fail
                go_ret
                exact ⟨rfl, hp0 ▸ B13.out⟩
              · have heb : ((ws[i]).1 == (m : Int)) = false := by rw [beq_eq_false_iff_ne]; exact hea
                have HEA := Lib.hid hea
                obtain ⟨z, hz⟩ : ∃ z, z = (ws[i]).1 := ⟨_, rfl⟩
                rw [← hz] at hdi heb
                clear hz hea hd0 hd1 hg5 hnone hbl hBW hB13 hsO hsS
                go_wp2_with fail
                go_roundw
                case measure => simp [intOf]; omega
                case rel => exact ⟨i + 1, by omega, by go_num, fun j hj hji => by
                  by_cases e : j = i
                  · subst e; exact HEA.out
                  · exact NONE.out j hj (by omega), HB13.out⟩
            · obtain rfl : i = ws.length := by omega
              have hlt2 : decide ((ws.length : Int) < ws.length) = false := by simp
              have HIFF := Lib.hid (show readS ss ws (m : Int) = readS SX ws (m : Int) ↔ x = 0 by rw [HSX.out]; exact read_turned HM.out (by have := HN.out; omega) (by have := HK.out; omega) (fun i hi => NONE.out i hi hi))
              by_cases hx : x = 0
              · have hRR : RS = RO := by rw [HRS.out, HRO.out]; exact (HIFF.out.2 hx).symm
                have hx0 : ((x.toNat : Int) == 0) = true := by rw [hx]; rfl
                rw [hRR] at hsS
                clear hRR hx hnone hbl hBW hB13
                go_wp2_with fail
                go_ret
                exact ⟨rfl, hp0 ▸ B13.out⟩
              · have hRR : RO ≠ RS := fun e => hx (HIFF.out.1 (by rw [← HRS.out, ← HRO.out]; exact e))
                have hx0 : ((x.toNat : Int) == 0) = false := by
                  rw [beq_eq_false_iff_ne]
                  intro e
                  exact hx (UInt8.toNat_inj.1 (by have e0 : x.toNat = 0 := by omega
                                                  rw [e0]; rfl))
                have hne : (RO == RS) = false := by rw [beq_eq_false_iff_ne]; exact hRR
                clear hRR hx hnone hbl hBW hB13
                go_wp2_with fail
                go_ret
                exact ⟨rfl, hp0 ▸ B13.out⟩
    · rw [spoilS, spoilW, if_neg hE, if_neg hE] at hd3
      have heb : (spoilE ss ws n kk != 0) = true := by rw [bne_iff_ne]; exact hE
      obtain ⟨x1, x2, rfl, hs3, hw3⟩ := hd3
      obtain ⟨A3, k3, rfl⟩ := secs_slice hs3
      obtain ⟨A4, k4, rfl⟩ := wts_slice hw3
      have B3 := Lib.hid (B2.out.trans (b3.mono B2.out.size))
      obtain ⟨E, hEE⟩ : ∃ E, E = spoilE ss ws n kk := ⟨_, rfl⟩
      rw [← hEE] at heb ⊢
      have hn3 := below_new w3 (.cells #[.slice A3 0 k3, .slice A4 0 k4] 25)
      have B4 := Lib.hid (B3.out.trans (hn3.mono B3.out.size))
      clear hs3 hw3 b3 hE hEE hn3 k0 k1
      go_wp2_with fail
      go_ret
      exact ⟨rfl, hp0 ▸ B4.out⟩
end Go.Proofs.Ytdpjdobmnkadjaa
