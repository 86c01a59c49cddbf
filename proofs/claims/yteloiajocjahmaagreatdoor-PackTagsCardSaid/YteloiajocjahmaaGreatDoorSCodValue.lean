/-
 What the program's value answers: the number that stands at the beginning of the bytes, and how many bytes it takes.
 Conditions: the bytes can be read as a slice.
-/
import Derived.Test.YteloiajocjahmaaGreatDoorSGCodP
import Derived.Test.YteloiajocjahmaaGreatDoorSGCodM
import Derived.Shelf.RegionOpen
import Derived.IntWalk
set_option linter.unusedVariables false
set_option linter.unusedSimpArgs false
namespace Go.Proofs.YteloiajocjahmaaGreatDoor
open Go.RowKit Go.Shelf

attribute [local go_sem] Oper.semAt_some

theorem boxed_put {W : World} {B l : Nat} {t : TypeId} {v : Value} {o o' : Obj} (h : Boxed W B t v) (hl : W.heap[l]? = some o) (ho : o.isCells = false) : Boxed (W.putObj l o') B t v :=
 h.kept (grownBy_putObj' W l o') (fun e => by cases e; rw [show W.heap[B]? = _ from h] at hl; cases hl; cases ho)

theorem Boxed.turned {W W' : World} {B : Nat} {t : TypeId} {v : Value} {row : Option Nat} (h : Boxed W B t v) (hg : W.grownBy W' row) (hr : ∀ r, row = some r → ∃ o : Obj, W.heap[r]? = some o ∧ o.isCells = false) : Boxed W' B t v :=
 h.kept hg (fun e => by
  obtain ⟨o, ho, hc⟩ := hr B e.symm
  rw [show W.heap[B]? = _ from h] at ho; cases ho; cases hc)

/-- Between two rounds. -/
def Mid (m : Nat) (pre : List UInt8) : Prop := m < 2 ^ (7 * pre.length) ∧ ∀ rest, scan 0 0 (pre ++ rest) = scan m pre.length rest
/-- Where a round has left. -/
def Gone (c : Code) (a b : Int) (pre : List UInt8) : Prop :=
 (c = .ret ∧ ∀ rest, ((scan 0 0 (pre ++ rest)).1 : Int) = a ∧ ((scan 0 0 (pre ++ rest)).2 : Int) = b) ∨ (c = .exit 0 ∧ ∀ rest, scan 0 0 (pre ++ rest) = (0, 0))
theorem scan_consV (n s : Nat) (x : UInt8) (r : List UInt8) : scan n s (x :: r) = if 2147483647 / 2 ^ (7 * s) < x.toNat % 128 then (0, 0) else
   if x.toNat < 128 then (if x.toNat % 128 = 0 ∧ 0 < s then (0, 0) else (n + x.toNat % 128 * 2 ^ (7 * s), s + 1))
   else scan (n + x.toNat % 128 * 2 ^ (7 * s)) (s + 1) r := rfl
theorem Mid.at_ {m s : Nat} {pre : List UInt8} {x : UInt8} (h : Mid m pre) (hl : pre.length = s) (rest : List UInt8) : scan 0 0 ((pre ++ [x]) ++ rest) = scan m s (x :: rest) := by
 rw [List.append_assoc, h.2, hl]; rfl
theorem Mid.step {m s K L : Nat} {d : Int} {pre : List UInt8} {x : UInt8} (h : Mid m pre) (hl : pre.length = s) (hK : 2 ^ (7 * s) = K) (hL : 2147483647 / K = L) (hd : (x.toNat : Int) % 128 = d) (hq : decide ((x.toNat : Int) < 128) = false) (hlim : d ≤ L) :
  ∃ m' : Nat, (m' : Int) = m + d * K ∧ Mid m' (pre ++ [x]) := by
 have hq' := of_decide_eq_false hq
 have hd' : d = ((x.toNat % 128 : Nat) : Int) := by omega
 refine ⟨m + x.toNat % 128 * K, by rw [hd']; simp, ?_, fun rest => ?_⟩
 ·have h1 := h.1
  rw [hl, hK] at h1
  have e : 2 ^ (7 * (pre ++ [x]).length) = K * 128 := by rw [List.length_append, hl, ← hK, ← Nat.pow_add (m := 7 * s) (n := 7)]; simp [Nat.mul_add]
  rw [e]
  have h2 : x.toNat % 128 * K ≤ 127 * K := Nat.mul_le_mul_right _ (by omega)
  omega
 ·rw [h.at_ hl, scan_consV, hK, hL, if_neg (by omega), if_neg (by omega), List.length_append, hl]; rfl
theorem Gone.big {m s K L : Nat} {d a b : Int} {pre : List UInt8} {x : UInt8} (h : Mid m pre) (hl : pre.length = s) (hK : 2 ^ (7 * s) = K) (hL : 2147483647 / K = L) (hd : (x.toNat : Int) % 128 = d) (hlim : L < d) : Gone (.exit 0) a b (pre ++ [x]) :=
 .inr ⟨rfl, fun rest => by rw [h.at_ hl, scan_consV, hK, hL, if_pos (by omega)]⟩
theorem Gone.zero {m s K L : Nat} {d a b : Int} {pre : List UInt8} {x : UInt8} (h : Mid m pre) (hl : pre.length = s) (hK : 2 ^ (7 * s) = K) (hL : 2147483647 / K = L) (hd : (x.toNat : Int) % 128 = d) (hq : decide ((x.toNat : Int) < 128) = true) (hd0 : d = 0) (hs : 0 < s) : Gone (.exit 0) a b (pre ++ [x]) := by
 have hq' := of_decide_eq_true hq
 exact .inr ⟨rfl, fun rest => by rw [h.at_ hl, scan_consV, hK, hL, if_neg (by omega), if_pos (by omega), if_pos (by omega)]⟩
theorem Gone.good {m s K L : Nat} {d : Int} {pre : List UInt8} {x : UInt8} (h : Mid m pre) (hl : pre.length = s) (hK : 2 ^ (7 * s) = K) (hL : 2147483647 / K = L) (hd : (x.toNat : Int) % 128 = d) (hq : decide ((x.toNat : Int) < 128) = true) (hlim : d ≤ L) (hd0 : d ≠ 0 ∨ s = 0) {a b : Int} (ha : a = m + d * K) (hb : b = s + 1) :
  Gone .ret a b (pre ++ [x]) := by
 subst ha; subst hb
 have hq' := of_decide_eq_true hq
 have hd' : d = ((x.toNat % 128 : Nat) : Int) := by omega
 refine .inl ⟨rfl, fun rest => ?_⟩
 rw [h.at_ hl, scan_consV, hK, hL, if_neg (by omega), if_pos (by omega), if_neg (by omega), hd']
 simp

theorem wpIn_via {F : Fence} {n : Nat} {P : Program} {c : Code} {Q : Exit → Act → World → Prop} {a : Act} {w : World} (a1 : Act) (w1 : World) (h : c.wpIn F n P (fun e a' w' => e = .normal ∧ a' = a1 ∧ w' = w1) a w) (k : Q .normal a1 w1) : c.wpIn F n P Q a w :=
 wpIn_mono h (fun _ _ _ ⟨h1, h2, h3⟩ => by subst h1; subst h2; subst h3; exact k)

/-- Two boxes, stored to one behind the other. -/
theorem boxes_two {W : World} {A B n₀ : Nat} {t : TypeId} {v0 u0 : Value} (ha : Boxed W A t v0) (hb : Boxed W B t u0) (hne : A ≠ B) (hA : n₀ ≤ A) (hB : n₀ ≤ B) (v u : Value) :
  Boxed ((W.setCell ⟨A, 0, none⟩ v).setCell ⟨B, 0, none⟩ u) A t v ∧ Boxed ((W.setCell ⟨A, 0, none⟩ v).setCell ⟨B, 0, none⟩ u) B t u ∧ KeepsOthers W ((W.setCell ⟨A, 0, none⟩ v).setCell ⟨B, 0, none⟩ u) ∧ Below n₀ W ((W.setCell ⟨A, 0, none⟩ v).setCell ⟨B, 0, none⟩ u) :=
 ⟨(ha.set v).kept (grownBy_setCell' _ B u) (by simpa using hne), (hb.kept (grownBy_setCell' _ A v) (by simpa using hne.symm)).set u, (KeepsOthers.setCell _ _ _).trans (KeepsOthers.setCell _ _ _),
  ((Below.refl n₀ W).setCell (p := ⟨A, 0, none⟩) hA v).setCell (p := ⟨B, 0, none⟩) hB u⟩

theorem Mid.start : Mid 0 [] := ⟨by decide, fun _ => rfl⟩

set_option maxRecDepth 100000 in
set_option maxHeartbeats 2000000 in
theorem value_in (F : Fence) (n : Nat) (hf : F.fn 102) (hf1 : F.fn 123) (hf2 : F.fn 132) (hro : F.round = none) (hn : 3 ≤ n) (v : Value) (xs : List UInt8) (w : World) (hx : Txt w w.heap.size v xs) :
  CallsIn F n Tryz.prog 102 #[v] w fun e W' => e = .returned (.tuple #[.int .i64 (scan 0 0 (xs.take 5)).1, .int .i64 (scan 0 0 (xs.take 5)).2]) ∧ Below w.heap.size w W' := by
 have h1 : 1 ≤ n := by omega
 have hv : ∃ A len cap, v = .slice A len cap := by obtain ⟨A, cap, rfl, _⟩ := hx; exact ⟨_, _, _, rfl⟩
 have HX := Lib.hid hx
 obtain ⟨A, len, cap, rfl⟩ := hv
 clear hx
 refine callsIn_of_wp_marks Tryz.func102 rfl hf ?_ hro
 simp only [Tryz.ntmps102, List.size_toArray, List.length_cons, List.length_nil, Nat.reduceAdd, Nat.reduceSub, Array.replicate_succ, Array.replicate_zero, List.push_toArray, List.append_toArray, List.nil_append, List.cons_append]
 gi_wp2_with (gi_at_call 123; refine (standing_in F (n - 1) hf1 hro _ _ ⟨_, _, _, rfl⟩).mono ?_; rintro e w' ⟨rfl, rfl⟩)
 have bM := (Boxed.new w 3 (.int .i64 0)).alloc (.cells #[.int .i64 0] 3)
 have bS := Boxed.new (w.alloc (.cells #[.int .i64 0] 3)) 3 (.int .i64 0)
 have bV := Boxed.new ((w.alloc (.cells #[.int .i64 0] 3)).alloc (.cells #[.int .i64 0] 3)) 22 (.slice A len cap)
 simp only [World.size_alloc] at bM bS bV
 have hB2 : Below w.heap.size w ((w.alloc (.cells #[.int .i64 0] 3)).alloc (.cells #[.int .i64 0] 3)) := ((Below.refl _ w).alloc (Nat.le_refl _) _).alloc (by simp) _
 have hB0 : Below w.heap.size w (((w.alloc (.cells #[.int .i64 0] 3)).alloc (.cells #[.int .i64 0] 3)).alloc (.cells #[.slice A len cap] 22)) := hB2.alloc (by simp; omega) _
 refine wpIn_rangeFunc_ownF hro h1 (gf := 132) (lb := #[.pointer (some ⟨w.heap.size + 2, 0, none⟩)]) rfl hf2 (enters_of Tryz.func132 (by kernel_rfl) rfl)
  (standing_stops F (n - 1) hf2 hro (by omega) (w.heap.size + 2) w.heap.size (.slice A len cap) xs _ (by simp) (by simp; omega) bV.cell (HX.out.below hB0)) belowK_t (belowK_b (by simp; omega)) (Below.refl _ _) (fun _ => rfl)
  (fun pre W => (∃ m : Nat, Boxed W w.heap.size 3 (.int .i64 m) ∧ Boxed W (w.heap.size + 1) 3 (.int .i64 pre.length) ∧ Mid m pre) ∧ Below w.heap.size w W)
  (fun c pre W => (∃ a b : Int, Boxed W w.heap.size 3 (.int .i64 a) ∧ Boxed W (w.heap.size + 1) 3 (.int .i64 b) ∧ Gone c a b pre) ∧ Below w.heap.size w W)
  (OwnFrom.and ?own1 (ownFrom_below (Nat.le_refl _) (by simp; omega)))
  (fun _ => OwnFrom.and ?own2 (ownFrom_below (Nat.le_refl _) (by simp; omega)))
  ⟨⟨0, bM.alloc _, bS.alloc _, Mid.start⟩, hB0⟩
  (fun x => { tmps := #[.slice A len cap, undef, .pointer (some ⟨w.heap.size, 0, none⟩), .pointer (some ⟨w.heap.size + 1, 0, none⟩), .int .i64 ((x.toNat : Int) % 128), .bool (decide ((x.toNat : Int) < 128)), .slice A len cap, .func (.func 132) #[] #[.pointer (some ⟨w.heap.size + 2, 0, none⟩)], .int .i64 ((x.toNat : Int) % 128), .bool (decide ((x.toNat : Int) < 128)),
   undef, undef, undef, undef, undef, undef, undef, undef, undef, undef, undef, undef, undef, undef, undef, undef, undef, undef, undef, undef, undef, undef], defers := [] }) ?assign ?body ?done ?stop
 case own1 => exact fun _ _ _ _ ⟨m, h1, h2, h3⟩ hg hr => ⟨m, Boxed.turned h1 hg (fun r e => (hr r e).2), Boxed.turned h2 hg (fun r e => (hr r e).2), h3⟩
 case own2 => exact fun _ _ _ _ ⟨a, b, h1, h2, h3⟩ hg hr => ⟨a, b, Boxed.turned h1 hg (fun r e => (hr r e).2), Boxed.turned h2 hg (fun r e => (hr r e).2), h3⟩
 case assign =>
  intro l x W K hK
  dsimp only [sd]
  gi_wp2
  exact hK
 case body =>
  rintro l pre x W ⟨⟨m, hm, hs, hmid⟩, hB⟩ hlt
  have hcm := hm.cell
  have hfm := hm.frozen
  have hcs := hs.cell
  have hfs := hs.frozen
  have hx := byte_lt x
  have Hs := Lib.hid hs
  have Hm := Lib.hid hm
  have Hmid := Lib.hid hmid
  clear hs hm hmid
  generalize hl : pre.length = s at *
  have Hl := Lib.hid hl
  clear hl
  have hd0 : 0 ≤ (x.toNat : Int) % 128 ∧ (x.toNat : Int) % 128 < 128 := by omega
  generalize hd : (x.toNat : Int) % 128 = d at hd0 ⊢
  generalize hq : decide ((x.toNat : Int) < 128) = q
  have Hd := Lib.hid hd
  have Hq := Lib.hid hq
  obtain ⟨hd0, hd1⟩ := hd0
  have hm0 := Hmid.out.1
  rw [Hl.out] at hm0
  clear hd hq hx
  have hmo : Tryz.prog.follows Departure.mixedOrders = true := by kernel_rfl
  obtain ⟨K, hK⟩ : ∃ K, 2 ^ (7 * s) = K := ⟨_, rfl⟩
  obtain ⟨ln, hL⟩ : ∃ ln, 2147483647 / K = ln := ⟨_, rfl⟩
  have hK1 : K ≤ 268435456 := by rw [← hK]; exact Nat.pow_le_pow_right (by decide) (show 7 * s ≤ 28 by omega)
  have hm1 : m < K := by rw [← hK]; exact hm0
  obtain ⟨L, hLe⟩ : ∃ L : Int, L = (ln : Int) := ⟨_, rfl⟩
  obtain ⟨p, hp⟩ : ∃ p : Int, p = d * (K : Int) := ⟨_, rfl⟩
  have hp0 : 0 ≤ p := by rw [hp]; exact Int.mul_nonneg hd0 (by omega)
  have hp1 : p ≤ 34359738368 := by rw [hp]; exact Int.le_trans (Int.mul_le_mul_of_nonneg_right (by omega : d ≤ 128) (by omega)) (by omega)
  have hKi : (2 : Int) ^ (7 * (s : Int)).toNat = (K : Int) := by rw [← hK, show (7 * (s : Int)).toNat = 7 * s by omega]; simp
  have HKi := Lib.hid hKi
  clear hKi
  have hK2 : (2 : Int) ^ (7 * s) = (K : Int) := by rw [← hK]; simp
  have hL2 : (2147483647 : Int) / (K : Int) = L := by rw [hLe, ← hL]; rfl
  have hp2 : d * (K : Int) = p := hp.symm
  have w1 : IntKind.i64.wrap p = p := IntWalk.i64_in _ (by omega)
  have w0 : IntKind.i64.wrap (7 * (s : Int)) = 7 * (s : Int) := IntWalk.i64_in _ (by omega)
  have w2 : IntKind.i64.wrap ((m : Int) + p) = (m : Int) + p := IntWalk.i64_in _ (by omega)
  have HK := Lib.hid hK
  have HL := Lib.hid hL
  have HP := Lib.hid hp
  have HLe := Lib.hid hLe
  clear hK hL hp hLe hm0
  have b2 := fun v u => boxes_two (n₀ := w.heap.size) Hm.out Hs.out (by omega) (Nat.le_refl _) (by omega) v u
  have B2 := Lib.hid b2
  clear b2
  by_cases hlim : L < d
  ·have hg := Gone.big (a := m) (b := s) Hmid.out Hl.out HK.out HL.out Hd.out (by have := HLe.out; omega)
   have Hg := Lib.hid hg
   clear hg
   gi_wp2
   exact ⟨KeepsOthers.refl _, ⟨_, _, Hm.out, Hs.out, Hg.out⟩, hB⟩
  ·have hll : d ≤ (ln : Int) := by have := HLe.out; omega
   cases q
   ·gi_wp2
    refine wpIn_via { tmps := #[.slice A len cap, undef, .pointer (some ⟨w.heap.size, 0, none⟩), .pointer (some ⟨w.heap.size + 1, 0, none⟩), .int .i64 d, .bool false, .slice A len cap, .func (.func 132) #[] #[.pointer (some ⟨w.heap.size + 2, 0, none⟩)], .int .i64 d, .bool false, .int .i64 d, .int .i64 s, .int .i64 (7 * (s : Int)), .int .i64 L, .bool false, .int .i64 m, .int .i64 d, .int .i64 s, .int .i64 (7 * (s : Int)), .int .i64 p, .int .i64 ((m : Int) + p), undef, undef, undef, undef, undef, undef, undef, undef, undef, undef, undef], defers := [] } ((W.setCell ⟨w.heap.size, 0, none⟩ (.int .i64 ((m : Int) + p))).drew) ?_ ?_
    ·gi_region_o
     all_goals (refine ⟨rfl, ?_, ?_⟩ <;> first | rw [HKi.out, hp2, w1, w2] | rfl)
    dsimp only [Exit.then]
    gi_wp2
    obtain ⟨b1, b2, b3, b4⟩ := B2.out (.int .i64 ((m : Int) + p)) (.int .i64 ((s : Int) + 1))
    obtain ⟨m', e, hm'⟩ := Mid.step Hmid.out Hl.out HK.out HL.out Hd.out Hq.out hll
    have e' : (m : Int) + p = (m' : Int) := by rw [e, HP.out]
    have e2 : (((pre ++ [x]).length : Nat) : Int) = (s : Int) + 1 := by rw [List.length_append, Hl.out]; rfl
    rw [e'] at b1 b2 b3 b4 ⊢
    exact ⟨b3.trans (KeepsOthers.drew _), b4.drew, ⟨m', b1, by rw [e2]; exact b2, hm'⟩, hB.trans b4.drew⟩
   ·have hs1 := B2.out (.int .i64 ((m : Int) + p)) (.int .i64 ((s : Int) + 1))
    have HS := Lib.hid hs1
    clear hs1
    have epm : (m : Int) + p = m + d * (K : Int) := by rw [HP.out]
    have EPM := Lib.hid epm
    clear epm
    gi_wp2
    refine wpIn_via { tmps := #[.slice A len cap, undef, .pointer (some ⟨w.heap.size, 0, none⟩), .pointer (some ⟨w.heap.size + 1, 0, none⟩), .int .i64 d, .bool true, .slice A len cap, .func (.func 132) #[] #[.pointer (some ⟨w.heap.size + 2, 0, none⟩)], .int .i64 d, .bool true, .int .i64 d, .int .i64 s, .int .i64 (7 * (s : Int)), .int .i64 L, .bool false, .int .i64 m, .int .i64 d, .int .i64 s, .int .i64 (7 * (s : Int)), .int .i64 p, .int .i64 ((m : Int) + p), undef, undef, undef, undef, undef, undef, undef, undef, undef, undef, undef], defers := [] } ((W.setCell ⟨w.heap.size, 0, none⟩ (.int .i64 ((m : Int) + p))).drew) ?_ ?_
    ·gi_region_o
     all_goals (refine ⟨rfl, ?_, ?_⟩ <;> first | rw [HKi.out, hp2, w1, w2] | rfl)
    dsimp only [Exit.then]
    by_cases hd0 : d = 0
    ·have hz : (d == 0) = true := by simpa using hd0
     by_cases hs0 : 0 < s
     ·have hg := Gone.zero (a := (m : Int) + p) (b := (s : Int) + 1) Hmid.out Hl.out HK.out HL.out Hd.out Hq.out hd0 hs0
      have Hg := Lib.hid hg
      clear hg hd0
      gi_wp2
      obtain ⟨b1, b2, b3, b4⟩ := HS.out
      exact ⟨b3.trans (KeepsOthers.drew _), ⟨_, _, b1, b2, Hg.out⟩, hB.trans b4.drew⟩
     ·have hg := Gone.good (a := (m : Int) + p) (b := (s : Int) + 1) Hmid.out Hl.out HK.out HL.out Hd.out Hq.out hll (.inr (by omega)) EPM.out rfl
      have HG := Lib.hid hg
      clear hg hd0
      gi_wp2
      gi_region_o
      all_goals gi_wp2
      all_goals (obtain ⟨b1, b2, b3, b4⟩ := HS.out; obtain ⟨c1, c2, c3, c4⟩ := boxes_two (n₀ := w.heap.size) b1 b2 (by omega) (Nat.le_refl _) (by omega) (.int .i64 ((m : Int) + p)) (.int .i64 ((s : Int) + 1)); exact ⟨((b3.trans c3).trans (KeepsOthers.drew _)).trans (KeepsOthers.drew _), ⟨_, _, c1, c2, HG.out⟩, hB.trans (b4.trans c4).drew.drew⟩)
    ·have hz : (d == 0) = false := by simpa using hd0
     have hg := Gone.good (a := (m : Int) + p) (b := (s : Int) + 1) Hmid.out Hl.out HK.out HL.out Hd.out Hq.out hll (.inl hd0) EPM.out rfl
     have HG := Lib.hid hg
     clear hg hd0
     gi_wp2
     gi_region_o
     all_goals gi_wp2
     all_goals (obtain ⟨b1, b2, b3, b4⟩ := HS.out; obtain ⟨c1, c2, c3, c4⟩ := boxes_two (n₀ := w.heap.size) b1 b2 (by omega) (Nat.le_refl _) (by omega) (.int .i64 ((m : Int) + p)) (.int .i64 ((s : Int) + 1)); exact ⟨((b3.trans c3).trans (KeepsOthers.drew _)).trans (KeepsOthers.drew _), ⟨_, _, c1, c2, HG.out⟩, hB.trans (b4.trans c4).drew.drew⟩)
 case done =>
  rintro D ys W hD rfl ⟨⟨m, hm, hs, hmid⟩, hB⟩ hK
  have hcm := hm.cell
  have hfm := hm.frozen
  have hcs := hs.cell
  have hfs := hs.frozen
  have hB' : Below w.heap.size w (((W.setCell ⟨w.heap.size, 0, none⟩ (.int .i64 0)).setCell ⟨w.heap.size + 1, 0, none⟩ (.int .i64 0)).putObj D (.deferred none)) :=
   ((hB.setCell (p := ⟨w.heap.size, 0, none⟩) (Nat.le_refl _) _).setCell (p := ⟨w.heap.size + 1, 0, none⟩) (by simp) _).trans (belowK_b (w := w) (Nat.le_refl _) _ D _ _ (by simp at hD; omega) (((KeepsOthers.setCell _ _ _).trans (KeepsOthers.setCell _ _ _)).same D _ hK rfl) rfl rfl)
  have hK' := ((KeepsOthers.setCell W ⟨w.heap.size, 0, none⟩ (.int .i64 0)).trans (KeepsOthers.setCell _ ⟨w.heap.size + 1, 0, none⟩ (.int .i64 0))).same D _ hK rfl
  have r1 := (boxed_put ((Boxed.set (.int .i64 0) hm).kept (grownBy_setCell' _ (w.heap.size + 1) (.int .i64 0)) (by simp)) hK' (o' := .deferred none) rfl).cell
  have r2 := (boxed_put (Boxed.set (.int .i64 0) (Boxed.kept hs (grownBy_setCell' _ w.heap.size (.int .i64 0)) (by simp))) hK' (o' := .deferred none) rfl).cell
  have hz := hmid.2 []
  rw [List.append_nil] at hz
  gi_wp2
  clear hcm hfm hcs hfs
  refine ⟨by simp, .inl ⟨_, _, rfl, run_takeDeferred hK', ?_⟩⟩
  refine ⟨_, (by simp [results, Tryz.results102, go_sem, r1, r2] <;> rfl), ?_, hB'⟩
  rw [hz]
  rfl
 case stop =>
  rintro D c pre W hD ⟨rest, hpre⟩ ⟨⟨a, b, hm, hs, hg⟩, hB⟩ hK
  have hcm := hm.cell
  have hfm := hm.frozen
  have hcs := hs.cell
  have hfs := hs.frozen
  rcases hg with ⟨rfl, hg⟩ | ⟨rfl, hg⟩
  ·have hB' : Below w.heap.size w (W.putObj D (.deferred none)) := hB.trans (belowK_b (w := w) (Nat.le_refl _) _ D _ _ (by simp at hD; omega) hK rfl rfl)
   have r1 := (boxed_put hm hK (o' := .deferred none) rfl).cell
   have r2 := (boxed_put hs hK (o' := .deferred none) rfl).cell
   obtain ⟨g1, g2⟩ := hg rest
   rw [hpre] at g1 g2
   have G1 := Lib.hid g1
   have G2 := Lib.hid g2
   clear g1 g2 hg
   gi_wp2
   refine ⟨by simp, .inl ⟨_, _, rfl, run_takeDeferred hK, ?_⟩⟩
   refine ⟨_, (by simp [results, Tryz.results102, go_sem, r1, r2] <;> rfl), ?_, hB'⟩
   rw [G1.out, G2.out]
  ·have hK' := ((KeepsOthers.setCell W ⟨w.heap.size, 0, none⟩ (.int .i64 0)).trans (KeepsOthers.setCell _ ⟨w.heap.size + 1, 0, none⟩ (.int .i64 0))).same D _ hK rfl
   obtain ⟨b1, b2, _, b4⟩ := boxes_two (n₀ := w.heap.size) hm hs (by omega) (Nat.le_refl _) (by omega) (.int .i64 0) (.int .i64 0)
   have hB' := (hB.trans b4).trans (belowK_b (w := w) (Nat.le_refl _) _ D _ (.deferred none) (by simp at hD; omega) hK' rfl rfl)
   have r1 := (boxed_put b1 hK' (o' := .deferred none) rfl).cell
   have r2 := (boxed_put b2 hK' (o' := .deferred none) rfl).cell
   have hz := hg rest
   rw [hpre] at hz
   have HZ := Lib.hid hz
   clear hz hg b1 b2
   gi_wp2
   clear hcm hfm hcs hfs
   refine ⟨by simp, .inl ⟨_, _, rfl, run_takeDeferred hK', ?_⟩⟩
   refine ⟨_, (by simp [results, Tryz.results102, go_sem, r1, r2] <;> rfl), ?_, hB'⟩
   rw [HZ.out]
   rfl
end Go.Proofs.YteloiajocjahmaaGreatDoor
