/-
  The document's own Unwrap, as the statements' package computes it, answers what the plain function says.
  Conditions: the bytes can be read as a slice.
-/
import Derived.Test.YthlohfiidogiiaaRefGet
set_option linter.unusedVariables false
set_option linter.unusedSimpArgs false
namespace Go.Proofs.Ythlohfiidogiiaa
open Go.RowKit Go.Shelf

theorem runwrap_arg (v : Value) (xs : List UInt8) (x y : Int) (w : World) (hx : Txt w w.heap.size v xs) (h : x < 0 ∨ (xs.length : Int) < x ∨ y < 0 ∨ 65536 < y) :
    Calls Try.prog 17 #[v, .int .i64 x, .int .i64 y] w fun e W' => e = .returned (.tuple #[.slice none 0 0, .int .i64 0, .int .i64 2]) ∧ w = W' := by
  obtain ⟨A, cap, rfl, _, _, _, _⟩ := hx
  by_cases h1 : x < 0
  · have g1 : decide (x < 0) = true := decide_eq_true h1
    go_enter Try.func17, Try.ntmps17
    go_wp2
    go_ret3
    exact ⟨rfl, rfl⟩
  · have g1 : decide (x < 0) = false := decide_eq_false h1
    by_cases h2 : (xs.length : Int) < x
    · have g2 : decide ((xs.length : Int) < x) = true := decide_eq_true h2
      go_enter Try.func17, Try.ntmps17
      go_wp2
      go_ret3
      exact ⟨rfl, rfl⟩
    · have g2 : decide ((xs.length : Int) < x) = false := decide_eq_false h2
      by_cases h3 : y < 0
      · have g3 : decide (y < 0) = true := decide_eq_true h3
        go_enter Try.func17, Try.ntmps17
        go_wp2
        go_ret3
        exact ⟨rfl, rfl⟩
      · have g3 : decide (y < 0) = false := decide_eq_false h3
        have h4 : 65536 < y := by omega
        go_enter Try.func17, Try.ntmps17
        go_wp2
        go_ret3
        exact ⟨rfl, rfl⟩

theorem Txt.sub0 {W : World} {B b off cap k n : Nat} {xs : List UInt8} (h : Txt W B (.slice (some ⟨b, off, none⟩) xs.length cap) xs) (hk : k + n ≤ xs.length) : Txt W B (.slice (some ⟨b, off + k, none⟩) n (cap - k)) ((xs.drop k).take n) := by
  by_cases hn : 0 < n
  · obtain ⟨b', off', e, _, h2⟩ := h.sub (L := n) hn hk
    cases e
    exact h2
  · obtain rfl : n = 0 := by omega
    obtain ⟨A', cap', e, h1, h2, _, _⟩ := h
    cases e
    exact ⟨some ⟨b, off + k, none⟩, cap - k, by simp, by simp, by omega, fun e => (by cases e), fun hp => absurd hp (by simp)⟩

set_option maxHeartbeats 1000000 in
theorem runwrap_in (A : Option Addr) (cap k z : Nat) (xs : List UInt8) (w : World) (hx : Txt w w.heap.size (.slice A xs.length cap) xs) (hbig : xs.length ≤ 100000) (hk : k ≤ xs.length) (hz : z ≤ 65536) :
    Calls Try.prog 17 #[.slice A xs.length cap, .int .i64 k, .int .i64 z] w fun e W' => ∃ u, e = .returned (.tuple #[u, .int .i64 (unwrapSpec xs k z).2.1, .int .i64 (unwrapSpec xs k z).2.2]) ∧
      W'.ownsRow w.heap.size 5 1 u (unwrapSpec xs k z).1.length ((unwrapSpec xs k z).1.map u8) ∧ Below w.heap.size w W' := by
  obtain ⟨i0, hi, hz0, hz1, hz2⟩ := info_parts infoByte
  have HG := Lib.hid (rget_any _ xs k w hx hbig)
  have HX := Lib.hid hx
  obtain ⟨_, _, e, hc1, _, _, _⟩ := id hx
  cases e
  clear hx
  unfold unwrapSpec
  rw [if_neg (by omega)]
  have g1 : decide ((k : Int) < 0) = false := decide_eq_false (by omega)
  have g2 : decide ((xs.length : Int) < k) = false := decide_eq_false (by omega)
  have g3 : decide ((z : Int) < 0) = false := decide_eq_false (by omega)
  by_cases h0 : (getSpec xs k).2.2 ≠ 0
  · rw [if_pos h0]
    have hne : ((getSpec xs k).2.2 != 0) = true := by simpa using h0
    generalize getSpec xs k = r at *
    obtain ⟨r1, r2, r3⟩ := r
    dsimp only at *
    clear h0
    go_enter Try.func17, Try.ntmps17
    go_wp2_with fail
    refine HG.out.mono ?_
    rintro e w1 ⟨rfl, hb⟩
    have HB := Lib.hid hb
    clear hb
    go_wp2
    go_ret3
    exact ⟨_, rfl, World.ownsRow_nil _ _ _ _, HB.out⟩
  · rw [if_neg h0]
    obtain ⟨k', n, e1, h1, h2, h3, h4, h5⟩ := getSpec_ok (Decidable.not_not.1 h0)
    obtain rfl : k = k' := by omega
    have hp := bytesOf_length_pos n
    rw [h4] at HG ⊢
    dsimp only at HG ⊢
    generalize hL : (bytesOf n).length = L at *
    clear hL h3 h4 h5 h0 e1
    by_cases hm : (z : Int) < n
    · rw [if_pos hm]
      go_enter Try.func17, Try.ntmps17
      go_wp2_with fail
      refine HG.out.mono ?_
      rintro e w1 ⟨rfl, hb⟩
      have HB := Lib.hid hb
      clear hb
      go_wp2
      go_ret3
      exact ⟨_, rfl, World.ownsRow_nil _ _ _ _, HB.out⟩
    · rw [if_neg hm]
      by_cases hf : (xs.length : Int) < (k : Int) + (L : Int) + n
      · rw [if_pos hf]
        go_enter Try.func17, Try.ntmps17
        go_wp2_with fail
        refine HG.out.mono ?_
        rintro e w1 ⟨rfl, hb⟩
        have HB := Lib.hid hb
        clear hb
        go_wp2
        go_ret3
        exact ⟨_, rfl, World.ownsRow_nil _ _ _ _, HB.out⟩
      · rw [if_neg hf]
        have e2 : ((k : Int) + (L : Int)).toNat = k + L := by omega
        rw [e2, Int.toNat_natCast]
        clear e2
        have hlen : ((xs.drop (k + L)).take n).length = n := by rw [List.length_take, List.length_drop]; omega
        rw [hlen]
        have hsrc : Txt w w.heap.size (.slice A xs.length cap) xs := HX.out
        obtain ⟨b, off, rfl⟩ : ∃ b off, A = some ⟨b, off, none⟩ := by
          obtain ⟨A', cap', e, _, _, _, h6⟩ := hsrc
          cases e
          obtain ⟨b, off, e, _⟩ := h6 (by omega)
          exact ⟨b, off, e⟩
        have hs0 := hsrc.sub0 (k := k + L) (n := n) (by omega)
        clear hsrc
        generalize hU : (xs.drop (k + L)).take n = U at *
        have w1_ : (k : Int) + (L : Int) ≤ (k : Int) + (L : Int) + n := by omega
        have w2_ : (k : Int) + (L : Int) + n ≤ (cap : Int) := by omega
        by_cases hck : cap = k + L
        · obtain rfl : n = 0 := by omega
          subst hck
          obtain rfl : U = [] := List.eq_nil_of_length_eq_zero hlen
          have ht : Txt w w.heap.size (.slice (some ⟨b, off, none⟩) 0 0) [] := ⟨_, 0, rfl, Nat.le_refl _, Nat.zero_le _, fun _ => rfl, fun hp => absurd hp (by simp)⟩
          have HT := Lib.hid ht
          clear hs0 hlen hU ht
          go_enter Try.func17, Try.ntmps17
          go_wp2_with (first
            | (go_at_call 15; go_must (refine HG.out.mono ?_; rintro e w1 ⟨rfl, hb⟩; have HB := Lib.hid hb; have hbs := hb.size; clear hb))
            | (at_builtin; go_must (refine wpList_append_txt (o := ⟨some 55, _, _, _, _, _⟩) rfl (.tmp 48) (.tmp 54) _ rfl Try.underlying25 hi hz0 hz1 hz2 rfl (World.ownsRow_nil _ w.heap.size 5 1) ?u1 (HT.out.below HB.out) (by simp) hbs ?_; (case u1 => (simp [go_sem])); intro v3 w3 hown3 hgrow3; have O3 := Lib.hid hown3; have G3 := Lib.hid hgrow3; clear hown3 hgrow3)))
          go_ret3
          exact ⟨_, rfl, O3.out, HB.out.grown G3.out hbs (fun j e => by cases e)⟩
        · have HT := Lib.hid hs0
          have HLEN := Lib.hid hlen
          clear hs0 hlen hU
          go_enter Try.func17, Try.ntmps17
          go_wp2_with (first
            | (go_at_call 15; go_must (refine HG.out.mono ?_; rintro e w1 ⟨rfl, hb⟩; have HB := Lib.hid hb; have hbs := hb.size; clear hb))
            | (at_builtin; go_must (refine wpList_append_txt (o := ⟨some 55, _, _, _, _, _⟩) rfl (.tmp 48) (.tmp 54) _ rfl Try.underlying25 hi hz0 hz1 hz2 rfl (World.ownsRow_nil _ w.heap.size 5 1) ?u2 (HT.out.below HB.out) (by rw [HLEN.out]; omega) hbs ?_; (case u2 => (simp [go_sem, hck])); intro v3 w3 hown3 hgrow3; have O3 := Lib.hid hown3; have G3 := Lib.hid hgrow3; clear hown3 hgrow3)))
          go_ret3
          refine ⟨_, rfl, ?_, HB.out.grown G3.out hbs (fun j e => by cases e)⟩
          have := O3.out
          rwa [Nat.zero_add, List.nil_append, HLEN.out] at this

theorem runwrap_any (v : Value) (xs : List UInt8) (x y : Int) (w : World) (hx : Txt w w.heap.size v xs) (hbig : xs.length ≤ 100000) :
    Calls Try.prog 17 #[v, .int .i64 x, .int .i64 y] w fun e W' => ∃ u, e = .returned (.tuple #[u, .int .i64 (unwrapSpec xs x y).2.1, .int .i64 (unwrapSpec xs x y).2.2]) ∧
      W'.ownsRow w.heap.size 5 1 u (unwrapSpec xs x y).1.length ((unwrapSpec xs x y).1.map u8) ∧ Below w.heap.size w W' := by
  by_cases h : x < 0 ∨ (xs.length : Int) < x ∨ y < 0 ∨ 65536 < y
  · have e : unwrapSpec xs x y = ([], 0, 2) := by unfold unwrapSpec; rw [if_pos h]
    rw [e]
    exact (runwrap_arg v xs x y w hx h).mono fun e W' ⟨he, hw⟩ => ⟨_, he, World.ownsRow_nil _ _ _ _, hw ▸ Below.refl _ _⟩
  · obtain ⟨k, rfl⟩ : ∃ k : Nat, x = k := ⟨x.toNat, by omega⟩
    obtain ⟨z, rfl⟩ : ∃ z : Nat, y = z := ⟨y.toNat, by omega⟩
    obtain ⟨A, cap, rfl, _⟩ := id hx
    exact runwrap_in A cap k z xs w hx hbig (by omega) (by omega)
end Go.Proofs.Ythlohfiidogiiaa
